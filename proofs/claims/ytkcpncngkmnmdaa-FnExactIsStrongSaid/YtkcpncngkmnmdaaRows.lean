/-
  No cell of these rows narrows 'for every input' (looked for: loops, veiled, ifaces, maps, wideKeys, modest, calm, conditions, laid).
  DERIVED. THE GIVEN ROWS OF THIS SEAT. 12 by the template 'for every input the law returns true; each argument reads behind the call as it read before'; 0 by the template 'total and deterministic' (their statements: YtkcpncngkmnmdaaTotals.lean).
  GIVEN WITH THE SEED: the statements are not yours to turn. If you find one false, say at which input.
  Laid BY PROGRAM, IN A SANDBOX (cutbox-rows.mjs): the forced cells as the released guide's own fill.sh prints them over the translation 5f9ffbc440f452c2… (all of the seat's roots in one cut). By AI agents, Wed Nov 11 2026. No macro, syntax, notation, axiom, sorry.
-/
import Derived.Test.YtkcpncngkmnmdaaChecked
import GoSem.Claim
import GoSem.ClaimJoined
import GoSem.ClaimMapViews
import Derived.JoinedTies
import Derived.KernelRfl
namespace Go.Proofs.Ytkcpncngkmnmdaa
/- THE CELL 'sum', in the pinned program and in every row, IS THE sha256 OF THE DUMP (.gsa) THAT YtkcpncngkmnmdaaProg.lean LOADS. Nothing in Lean hashes anything: it is a label: what it is worth is what the hold of that sum in a sandbox is worth. -/
noncomputable def Try.pinned : Pinned := { name := "ytkcpncngkmnmdaa", sum := "5f9ffbc440f452c2949e2bf12e9f6175c4a724900381f1b229b5e0fa50484e89", checked := Try.checked }
namespace Rows
def none {H : Type} : Left H := { results := [], args := [] }

/-- 'laws.FnExactLeastWins': WHATEVER THE INPUT: true; the input reads as it did. -/
def fnExactLeastWinsSpec : ChangeSpec := { name := "fnExactLeastWins", fn := fun _ => fun
  | [d] => { results := [.lit (.bool true)], args := [d] }
  | _ => none }
def fnExactLeastWinsRow : OpenClaim := { program := "ytkcpncngkmnmdaa", sum := "5f9ffbc440f452c2949e2bf12e9f6175c4a724900381f1b229b5e0fa50484e89", func := "loop.example/g01135/laws.FnExactLeastWins", spec := "fnExactLeastWins", unfollowed := true, recurses := true, apart := false }
def FnExactLeastWinsSaid : Prop := fnExactLeastWinsRow.holds Try.pinned (OpenSpec.ofChange fnExactLeastWinsSpec)

/-- ITS FALSE NEIGHBOUR: 'it returns false'. Refute it at one input. -/
def fnExactLeastWinsWrong : ChangeSpec := { name := "fnExactLeastWins", fn := fun _ => fun
  | [d] => { results := [.lit (.bool false)], args := [d] }
  | _ => none }
def FnExactLeastWinsWrongFalsely : Prop := fnExactLeastWinsRow.holds Try.pinned (OpenSpec.ofChange fnExactLeastWinsWrong)

/-- 'laws.FnExactGreatestLosses': WHATEVER THE INPUT: true; the input reads as it did. -/
def fnExactGreatestLossesSpec : ChangeSpec := { name := "fnExactGreatestLosses", fn := fun _ => fun
  | [d] => { results := [.lit (.bool true)], args := [d] }
  | _ => none }
def fnExactGreatestLossesRow : OpenClaim := { program := "ytkcpncngkmnmdaa", sum := "5f9ffbc440f452c2949e2bf12e9f6175c4a724900381f1b229b5e0fa50484e89", func := "loop.example/g01135/laws.FnExactGreatestLosses", spec := "fnExactGreatestLosses", unfollowed := true, recurses := true, apart := false }
def FnExactGreatestLossesSaid : Prop := fnExactGreatestLossesRow.holds Try.pinned (OpenSpec.ofChange fnExactGreatestLossesSpec)

/-- ITS FALSE NEIGHBOUR: 'it returns false'. Refute it at one input. -/
def fnExactGreatestLossesWrong : ChangeSpec := { name := "fnExactGreatestLosses", fn := fun _ => fun
  | [d] => { results := [.lit (.bool false)], args := [d] }
  | _ => none }
def FnExactGreatestLossesWrongFalsely : Prop := fnExactGreatestLossesRow.holds Try.pinned (OpenSpec.ofChange fnExactGreatestLossesWrong)

/-- 'laws.FnExactCountWins': WHATEVER THE INPUT: true; the input reads as it did. -/
def fnExactCountWinsSpec : ChangeSpec := { name := "fnExactCountWins", fn := fun _ => fun
  | [d] => { results := [.lit (.bool true)], args := [d] }
  | _ => none }
def fnExactCountWinsRow : OpenClaim := { program := "ytkcpncngkmnmdaa", sum := "5f9ffbc440f452c2949e2bf12e9f6175c4a724900381f1b229b5e0fa50484e89", func := "loop.example/g01135/laws.FnExactCountWins", spec := "fnExactCountWins", unfollowed := true, recurses := true, apart := false }
def FnExactCountWinsSaid : Prop := fnExactCountWinsRow.holds Try.pinned (OpenSpec.ofChange fnExactCountWinsSpec)

/-- ITS FALSE NEIGHBOUR: 'it returns false'. Refute it at one input. -/
def fnExactCountWinsWrong : ChangeSpec := { name := "fnExactCountWins", fn := fun _ => fun
  | [d] => { results := [.lit (.bool false)], args := [d] }
  | _ => none }
def FnExactCountWinsWrongFalsely : Prop := fnExactCountWinsRow.holds Try.pinned (OpenSpec.ofChange fnExactCountWinsWrong)

/-- 'laws.FnExactSwingCounts': WHATEVER THE INPUT: true; the input reads as it did. -/
def fnExactSwingCountsSpec : ChangeSpec := { name := "fnExactSwingCounts", fn := fun _ => fun
  | [d] => { results := [.lit (.bool true)], args := [d] }
  | _ => none }
def fnExactSwingCountsRow : OpenClaim := { program := "ytkcpncngkmnmdaa", sum := "5f9ffbc440f452c2949e2bf12e9f6175c4a724900381f1b229b5e0fa50484e89", func := "loop.example/g01135/laws.FnExactSwingCounts", spec := "fnExactSwingCounts", unfollowed := true, recurses := true, apart := false }
def FnExactSwingCountsSaid : Prop := fnExactSwingCountsRow.holds Try.pinned (OpenSpec.ofChange fnExactSwingCountsSpec)

/-- ITS FALSE NEIGHBOUR: 'it returns false'. Refute it at one input. -/
def fnExactSwingCountsWrong : ChangeSpec := { name := "fnExactSwingCounts", fn := fun _ => fun
  | [d] => { results := [.lit (.bool false)], args := [d] }
  | _ => none }
def FnExactSwingCountsWrongFalsely : Prop := fnExactSwingCountsRow.holds Try.pinned (OpenSpec.ofChange fnExactSwingCountsWrong)

/-- 'laws.FnExactOrderCounts': WHATEVER THE INPUT: true; the input reads as it did. -/
def fnExactOrderCountsSpec : ChangeSpec := { name := "fnExactOrderCounts", fn := fun _ => fun
  | [d] => { results := [.lit (.bool true)], args := [d] }
  | _ => none }
def fnExactOrderCountsRow : OpenClaim := { program := "ytkcpncngkmnmdaa", sum := "5f9ffbc440f452c2949e2bf12e9f6175c4a724900381f1b229b5e0fa50484e89", func := "loop.example/g01135/laws.FnExactOrderCounts", spec := "fnExactOrderCounts", unfollowed := true, recurses := true, apart := false }
def FnExactOrderCountsSaid : Prop := fnExactOrderCountsRow.holds Try.pinned (OpenSpec.ofChange fnExactOrderCountsSpec)

/-- ITS FALSE NEIGHBOUR: 'it returns false'. Refute it at one input. -/
def fnExactOrderCountsWrong : ChangeSpec := { name := "fnExactOrderCounts", fn := fun _ => fun
  | [d] => { results := [.lit (.bool false)], args := [d] }
  | _ => none }
def FnExactOrderCountsWrongFalsely : Prop := fnExactOrderCountsRow.holds Try.pinned (OpenSpec.ofChange fnExactOrderCountsWrong)

/-- 'laws.FnExactDummiesOf': WHATEVER THE INPUT: true; the input reads as it did. -/
def fnExactDummiesOfSpec : ChangeSpec := { name := "fnExactDummiesOf", fn := fun _ => fun
  | [d] => { results := [.lit (.bool true)], args := [d] }
  | _ => none }
def fnExactDummiesOfRow : OpenClaim := { program := "ytkcpncngkmnmdaa", sum := "5f9ffbc440f452c2949e2bf12e9f6175c4a724900381f1b229b5e0fa50484e89", func := "loop.example/g01135/laws.FnExactDummiesOf", spec := "fnExactDummiesOf", unfollowed := true, recurses := true, apart := false }
def FnExactDummiesOfSaid : Prop := fnExactDummiesOfRow.holds Try.pinned (OpenSpec.ofChange fnExactDummiesOfSpec)

/-- ITS FALSE NEIGHBOUR: 'it returns false'. Refute it at one input. -/
def fnExactDummiesOfWrong : ChangeSpec := { name := "fnExactDummiesOf", fn := fun _ => fun
  | [d] => { results := [.lit (.bool false)], args := [d] }
  | _ => none }
def FnExactDummiesOfWrongFalsely : Prop := fnExactDummiesOfRow.holds Try.pinned (OpenSpec.ofChange fnExactDummiesOfWrong)

/-- 'laws.FnExactVetoVoters': WHATEVER THE INPUT: true; the input reads as it did. -/
def fnExactVetoVotersSpec : ChangeSpec := { name := "fnExactVetoVoters", fn := fun _ => fun
  | [d] => { results := [.lit (.bool true)], args := [d] }
  | _ => none }
def fnExactVetoVotersRow : OpenClaim := { program := "ytkcpncngkmnmdaa", sum := "5f9ffbc440f452c2949e2bf12e9f6175c4a724900381f1b229b5e0fa50484e89", func := "loop.example/g01135/laws.FnExactVetoVoters", spec := "fnExactVetoVoters", unfollowed := true, recurses := true, apart := false }
def FnExactVetoVotersSaid : Prop := fnExactVetoVotersRow.holds Try.pinned (OpenSpec.ofChange fnExactVetoVotersSpec)

/-- ITS FALSE NEIGHBOUR: 'it returns false'. Refute it at one input. -/
def fnExactVetoVotersWrong : ChangeSpec := { name := "fnExactVetoVoters", fn := fun _ => fun
  | [d] => { results := [.lit (.bool false)], args := [d] }
  | _ => none }
def FnExactVetoVotersWrongFalsely : Prop := fnExactVetoVotersRow.holds Try.pinned (OpenSpec.ofChange fnExactVetoVotersWrong)

/-- 'laws.FnExactDictatorOf': WHATEVER THE INPUT: true; the input reads as it did. -/
def fnExactDictatorOfSpec : ChangeSpec := { name := "fnExactDictatorOf", fn := fun _ => fun
  | [d] => { results := [.lit (.bool true)], args := [d] }
  | _ => none }
def fnExactDictatorOfRow : OpenClaim := { program := "ytkcpncngkmnmdaa", sum := "5f9ffbc440f452c2949e2bf12e9f6175c4a724900381f1b229b5e0fa50484e89", func := "loop.example/g01135/laws.FnExactDictatorOf", spec := "fnExactDictatorOf", unfollowed := true, recurses := true, apart := false }
def FnExactDictatorOfSaid : Prop := fnExactDictatorOfRow.holds Try.pinned (OpenSpec.ofChange fnExactDictatorOfSpec)

/-- ITS FALSE NEIGHBOUR: 'it returns false'. Refute it at one input. -/
def fnExactDictatorOfWrong : ChangeSpec := { name := "fnExactDictatorOf", fn := fun _ => fun
  | [d] => { results := [.lit (.bool false)], args := [d] }
  | _ => none }
def FnExactDictatorOfWrongFalsely : Prop := fnExactDictatorOfRow.holds Try.pinned (OpenSpec.ofChange fnExactDictatorOfWrong)

/-- 'laws.FnExactIsProper': WHATEVER THE INPUT: true; the input reads as it did. -/
def fnExactIsProperSpec : ChangeSpec := { name := "fnExactIsProper", fn := fun _ => fun
  | [d] => { results := [.lit (.bool true)], args := [d] }
  | _ => none }
def fnExactIsProperRow : OpenClaim := { program := "ytkcpncngkmnmdaa", sum := "5f9ffbc440f452c2949e2bf12e9f6175c4a724900381f1b229b5e0fa50484e89", func := "loop.example/g01135/laws.FnExactIsProper", spec := "fnExactIsProper", unfollowed := true, recurses := true, apart := false }
def FnExactIsProperSaid : Prop := fnExactIsProperRow.holds Try.pinned (OpenSpec.ofChange fnExactIsProperSpec)

/-- ITS FALSE NEIGHBOUR: 'it returns false'. Refute it at one input. -/
def fnExactIsProperWrong : ChangeSpec := { name := "fnExactIsProper", fn := fun _ => fun
  | [d] => { results := [.lit (.bool false)], args := [d] }
  | _ => none }
def FnExactIsProperWrongFalsely : Prop := fnExactIsProperRow.holds Try.pinned (OpenSpec.ofChange fnExactIsProperWrong)

/-- 'laws.FnExactIsStrong': WHATEVER THE INPUT: true; the input reads as it did. -/
def fnExactIsStrongSpec : ChangeSpec := { name := "fnExactIsStrong", fn := fun _ => fun
  | [d] => { results := [.lit (.bool true)], args := [d] }
  | _ => none }
def fnExactIsStrongRow : OpenClaim := { program := "ytkcpncngkmnmdaa", sum := "5f9ffbc440f452c2949e2bf12e9f6175c4a724900381f1b229b5e0fa50484e89", func := "loop.example/g01135/laws.FnExactIsStrong", spec := "fnExactIsStrong", unfollowed := true, recurses := true, apart := false }
def FnExactIsStrongSaid : Prop := fnExactIsStrongRow.holds Try.pinned (OpenSpec.ofChange fnExactIsStrongSpec)

/-- ITS FALSE NEIGHBOUR: 'it returns false'. Refute it at one input. -/
def fnExactIsStrongWrong : ChangeSpec := { name := "fnExactIsStrong", fn := fun _ => fun
  | [d] => { results := [.lit (.bool false)], args := [d] }
  | _ => none }
def FnExactIsStrongWrongFalsely : Prop := fnExactIsStrongRow.holds Try.pinned (OpenSpec.ofChange fnExactIsStrongWrong)

/-- 'laws.FnExactSameWins': WHATEVER THE INPUT: true; the input reads as it did. -/
def fnExactSameWinsSpec : ChangeSpec := { name := "fnExactSameWins", fn := fun _ => fun
  | [d1, d2] => { results := [.lit (.bool true)], args := [d1, d2] }
  | _ => none }
def fnExactSameWinsRow : OpenClaim := { program := "ytkcpncngkmnmdaa", sum := "5f9ffbc440f452c2949e2bf12e9f6175c4a724900381f1b229b5e0fa50484e89", func := "loop.example/g01135/laws.FnExactSameWins", spec := "fnExactSameWins", unfollowed := true, recurses := true, apart := false }
def FnExactSameWinsSaid : Prop := fnExactSameWinsRow.holds Try.pinned (OpenSpec.ofChange fnExactSameWinsSpec)

/-- ITS FALSE NEIGHBOUR: 'it returns false'. Refute it at one input. -/
def fnExactSameWinsWrong : ChangeSpec := { name := "fnExactSameWins", fn := fun _ => fun
  | [d1, d2] => { results := [.lit (.bool false)], args := [d1, d2] }
  | _ => none }
def FnExactSameWinsWrongFalsely : Prop := fnExactSameWinsRow.holds Try.pinned (OpenSpec.ofChange fnExactSameWinsWrong)

/-- 'laws.FnExactQuotaSwings': WHATEVER THE INPUT: true; the input reads as it did. -/
def fnExactQuotaSwingsSpec : ChangeSpec := { name := "fnExactQuotaSwings", fn := fun _ => fun
  | [d1, d2] => { results := [.lit (.bool true)], args := [d1, d2] }
  | _ => none }
def fnExactQuotaSwingsRow : OpenClaim := { program := "ytkcpncngkmnmdaa", sum := "5f9ffbc440f452c2949e2bf12e9f6175c4a724900381f1b229b5e0fa50484e89", func := "loop.example/g01135/laws.FnExactQuotaSwings", spec := "fnExactQuotaSwings", unfollowed := true, recurses := true, apart := false }
def FnExactQuotaSwingsSaid : Prop := fnExactQuotaSwingsRow.holds Try.pinned (OpenSpec.ofChange fnExactQuotaSwingsSpec)

/-- ITS FALSE NEIGHBOUR: 'it returns false'. Refute it at one input. -/
def fnExactQuotaSwingsWrong : ChangeSpec := { name := "fnExactQuotaSwings", fn := fun _ => fun
  | [d1, d2] => { results := [.lit (.bool false)], args := [d1, d2] }
  | _ => none }
def FnExactQuotaSwingsWrongFalsely : Prop := fnExactQuotaSwingsRow.holds Try.pinned (OpenSpec.ofChange fnExactQuotaSwingsWrong)

/- THE SECOND FORM. 'bulk': how many values and letters a reading holds, each counted each time it is reached (what is shared counts as often as it is met; a slice's spare places count too). A statement '..UptoSaid' is the law's where the arguments, and the package variables that the reading takes, are together of bulk at most 1048576: NARROWER than '..Said'. Prove '..Said' where nothing that the law and all that it calls make is longer than what came in: it says more and counts as full. Else prove '..UptoSaid'. A law counts once. -/
mutual
def uptoBulk {H : Type} : DataW H → Nat
  | .lit (.string bytes) => bytes.length + 1
  | .lit _ => 1
  | .nil => 1
  | .ptr d => uptoBulk d + 1
  | .slice elems spare => uptoBulkAll elems + uptoBulkAll spare + 1
  | .agg parts => uptoBulkAll parts + 1
  | .iface _ d => uptoBulk d + 1
  | .map entries => uptoBulkEntries entries + 1
  | .held _ => 1
def uptoBulkAll {H : Type} : List (DataW H) → Nat
  | [] => 0
  | d :: r => uptoBulk d + uptoBulkAll r
def uptoBulkEntries {H : Type} : List (Lit × DataW H) → Nat
  | [] => 0
  | x :: r => uptoBulkEntry x + uptoBulkEntries r
def uptoBulkEntry {H : Type} : Lit × DataW H → Nat
  | (.string bytes, d) => bytes.length + uptoBulk d + 1
  | (_, d) => uptoBulk d + 1
 end
def uptoSmall : (H : Type) → List (DataW H) → Bool := fun _ ds => decide (uptoBulkAll ds ≤ 1048576)
def OpenSpec.upto (s : _root_.Go.ChangeSpec) : _root_.Go.OpenSpec := { _root_.Go.OpenSpec.ofChange s with cond := some uptoSmall }

/-- 'laws.FnExactLeastWins', WHERE WHAT IT READS IS OF BULK AT MOST 1048576: true; the input reads as it did. -/
def fnExactLeastWinsUptoRow : OpenClaim := { program := "ytkcpncngkmnmdaa", sum := "5f9ffbc440f452c2949e2bf12e9f6175c4a724900381f1b229b5e0fa50484e89", func := "loop.example/g01135/laws.FnExactLeastWins", spec := "fnExactLeastWins", unfollowed := true, recurses := true, apart := false, narrowed := true }
def FnExactLeastWinsUptoSaid : Prop := fnExactLeastWinsUptoRow.holds Try.pinned (OpenSpec.upto fnExactLeastWinsSpec)

/-- 'laws.FnExactGreatestLosses', WHERE WHAT IT READS IS OF BULK AT MOST 1048576: true; the input reads as it did. -/
def fnExactGreatestLossesUptoRow : OpenClaim := { program := "ytkcpncngkmnmdaa", sum := "5f9ffbc440f452c2949e2bf12e9f6175c4a724900381f1b229b5e0fa50484e89", func := "loop.example/g01135/laws.FnExactGreatestLosses", spec := "fnExactGreatestLosses", unfollowed := true, recurses := true, apart := false, narrowed := true }
def FnExactGreatestLossesUptoSaid : Prop := fnExactGreatestLossesUptoRow.holds Try.pinned (OpenSpec.upto fnExactGreatestLossesSpec)

/-- 'laws.FnExactCountWins', WHERE WHAT IT READS IS OF BULK AT MOST 1048576: true; the input reads as it did. -/
def fnExactCountWinsUptoRow : OpenClaim := { program := "ytkcpncngkmnmdaa", sum := "5f9ffbc440f452c2949e2bf12e9f6175c4a724900381f1b229b5e0fa50484e89", func := "loop.example/g01135/laws.FnExactCountWins", spec := "fnExactCountWins", unfollowed := true, recurses := true, apart := false, narrowed := true }
def FnExactCountWinsUptoSaid : Prop := fnExactCountWinsUptoRow.holds Try.pinned (OpenSpec.upto fnExactCountWinsSpec)

/-- 'laws.FnExactSwingCounts', WHERE WHAT IT READS IS OF BULK AT MOST 1048576: true; the input reads as it did. -/
def fnExactSwingCountsUptoRow : OpenClaim := { program := "ytkcpncngkmnmdaa", sum := "5f9ffbc440f452c2949e2bf12e9f6175c4a724900381f1b229b5e0fa50484e89", func := "loop.example/g01135/laws.FnExactSwingCounts", spec := "fnExactSwingCounts", unfollowed := true, recurses := true, apart := false, narrowed := true }
def FnExactSwingCountsUptoSaid : Prop := fnExactSwingCountsUptoRow.holds Try.pinned (OpenSpec.upto fnExactSwingCountsSpec)

/-- 'laws.FnExactOrderCounts', WHERE WHAT IT READS IS OF BULK AT MOST 1048576: true; the input reads as it did. -/
def fnExactOrderCountsUptoRow : OpenClaim := { program := "ytkcpncngkmnmdaa", sum := "5f9ffbc440f452c2949e2bf12e9f6175c4a724900381f1b229b5e0fa50484e89", func := "loop.example/g01135/laws.FnExactOrderCounts", spec := "fnExactOrderCounts", unfollowed := true, recurses := true, apart := false, narrowed := true }
def FnExactOrderCountsUptoSaid : Prop := fnExactOrderCountsUptoRow.holds Try.pinned (OpenSpec.upto fnExactOrderCountsSpec)

/-- 'laws.FnExactDummiesOf', WHERE WHAT IT READS IS OF BULK AT MOST 1048576: true; the input reads as it did. -/
def fnExactDummiesOfUptoRow : OpenClaim := { program := "ytkcpncngkmnmdaa", sum := "5f9ffbc440f452c2949e2bf12e9f6175c4a724900381f1b229b5e0fa50484e89", func := "loop.example/g01135/laws.FnExactDummiesOf", spec := "fnExactDummiesOf", unfollowed := true, recurses := true, apart := false, narrowed := true }
def FnExactDummiesOfUptoSaid : Prop := fnExactDummiesOfUptoRow.holds Try.pinned (OpenSpec.upto fnExactDummiesOfSpec)

/-- 'laws.FnExactVetoVoters', WHERE WHAT IT READS IS OF BULK AT MOST 1048576: true; the input reads as it did. -/
def fnExactVetoVotersUptoRow : OpenClaim := { program := "ytkcpncngkmnmdaa", sum := "5f9ffbc440f452c2949e2bf12e9f6175c4a724900381f1b229b5e0fa50484e89", func := "loop.example/g01135/laws.FnExactVetoVoters", spec := "fnExactVetoVoters", unfollowed := true, recurses := true, apart := false, narrowed := true }
def FnExactVetoVotersUptoSaid : Prop := fnExactVetoVotersUptoRow.holds Try.pinned (OpenSpec.upto fnExactVetoVotersSpec)

/-- 'laws.FnExactDictatorOf', WHERE WHAT IT READS IS OF BULK AT MOST 1048576: true; the input reads as it did. -/
def fnExactDictatorOfUptoRow : OpenClaim := { program := "ytkcpncngkmnmdaa", sum := "5f9ffbc440f452c2949e2bf12e9f6175c4a724900381f1b229b5e0fa50484e89", func := "loop.example/g01135/laws.FnExactDictatorOf", spec := "fnExactDictatorOf", unfollowed := true, recurses := true, apart := false, narrowed := true }
def FnExactDictatorOfUptoSaid : Prop := fnExactDictatorOfUptoRow.holds Try.pinned (OpenSpec.upto fnExactDictatorOfSpec)

/-- 'laws.FnExactIsProper', WHERE WHAT IT READS IS OF BULK AT MOST 1048576: true; the input reads as it did. -/
def fnExactIsProperUptoRow : OpenClaim := { program := "ytkcpncngkmnmdaa", sum := "5f9ffbc440f452c2949e2bf12e9f6175c4a724900381f1b229b5e0fa50484e89", func := "loop.example/g01135/laws.FnExactIsProper", spec := "fnExactIsProper", unfollowed := true, recurses := true, apart := false, narrowed := true }
def FnExactIsProperUptoSaid : Prop := fnExactIsProperUptoRow.holds Try.pinned (OpenSpec.upto fnExactIsProperSpec)

/-- 'laws.FnExactIsStrong', WHERE WHAT IT READS IS OF BULK AT MOST 1048576: true; the input reads as it did. -/
def fnExactIsStrongUptoRow : OpenClaim := { program := "ytkcpncngkmnmdaa", sum := "5f9ffbc440f452c2949e2bf12e9f6175c4a724900381f1b229b5e0fa50484e89", func := "loop.example/g01135/laws.FnExactIsStrong", spec := "fnExactIsStrong", unfollowed := true, recurses := true, apart := false, narrowed := true }
def FnExactIsStrongUptoSaid : Prop := fnExactIsStrongUptoRow.holds Try.pinned (OpenSpec.upto fnExactIsStrongSpec)

/-- 'laws.FnExactSameWins', WHERE WHAT IT READS IS OF BULK AT MOST 1048576: true; the input reads as it did. -/
def fnExactSameWinsUptoRow : OpenClaim := { program := "ytkcpncngkmnmdaa", sum := "5f9ffbc440f452c2949e2bf12e9f6175c4a724900381f1b229b5e0fa50484e89", func := "loop.example/g01135/laws.FnExactSameWins", spec := "fnExactSameWins", unfollowed := true, recurses := true, apart := false, narrowed := true }
def FnExactSameWinsUptoSaid : Prop := fnExactSameWinsUptoRow.holds Try.pinned (OpenSpec.upto fnExactSameWinsSpec)

/-- 'laws.FnExactQuotaSwings', WHERE WHAT IT READS IS OF BULK AT MOST 1048576: true; the input reads as it did. -/
def fnExactQuotaSwingsUptoRow : OpenClaim := { program := "ytkcpncngkmnmdaa", sum := "5f9ffbc440f452c2949e2bf12e9f6175c4a724900381f1b229b5e0fa50484e89", func := "loop.example/g01135/laws.FnExactQuotaSwings", spec := "fnExactQuotaSwings", unfollowed := true, recurses := true, apart := false, narrowed := true }
def FnExactQuotaSwingsUptoSaid : Prop := fnExactQuotaSwingsUptoRow.holds Try.pinned (OpenSpec.upto fnExactQuotaSwingsSpec)

end Rows
end Go.Proofs.Ytkcpncngkmnmdaa
