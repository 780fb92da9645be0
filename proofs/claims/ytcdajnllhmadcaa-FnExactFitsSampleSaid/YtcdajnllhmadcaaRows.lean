/-
  No cell of these rows narrows 'for every input' (looked for: loops, veiled, ifaces, maps, wideKeys, modest, calm, conditions, laid).
  DERIVED. THE GIVEN ROWS OF THIS SEAT. 12 by the template 'for every input the law returns true; each argument reads behind the call as it read before'; 0 by the template 'total and deterministic' (their statements: YtcdajnllhmadcaaTotals.lean).
  GIVEN WITH THE SEED: the statements are not yours to turn. If you find one false, say at which input.
  Laid BY PROGRAM, IN A SANDBOX (cutbox-rows.mjs): the forced cells as the released guide's own fill.sh prints them over the translation bdfd8ff45b35a63c… (all of the seat's roots in one cut). By AI agents, Wed Nov 11 2026. No macro, syntax, notation, axiom, sorry.
-/
import Derived.Test.YtcdajnllhmadcaaChecked
import GoSem.Claim
import GoSem.ClaimJoined
import GoSem.ClaimMapViews
import Derived.JoinedTies
import Derived.KernelRfl
namespace Go.Proofs.Ytcdajnllhmadcaa
/- THE CELL 'sum', in the pinned program and in every row, IS THE sha256 OF THE DUMP (.gsa) THAT YtcdajnllhmadcaaProg.lean LOADS. Nothing in Lean hashes anything: it is a label: what it is worth is what the hold of that sum in a sandbox is worth. -/
noncomputable def Try.pinned : Pinned := { name := "ytcdajnllhmadcaa", sum := "bdfd8ff45b35a63caca7e4af948c78df5913aea7cd8db585508e70760ecafe07", checked := Try.checked }
namespace Rows
def none {H : Type} : Left H := { results := [], args := [] }

/-- 'laws.FnBits': WHATEVER THE INPUT: true; the input reads as it did. -/
def fnBitsSpec : ChangeSpec := { name := "fnBits", fn := fun _ => fun
  | [d] => { results := [.lit (.bool true)], args := [d] }
  | _ => none }
def fnBitsRow : OpenClaim := { program := "ytcdajnllhmadcaa", sum := "bdfd8ff45b35a63caca7e4af948c78df5913aea7cd8db585508e70760ecafe07", func := "loop.example/g01135/laws.FnBits", spec := "fnBits", unfollowed := true, recurses := true, apart := false }
def FnBitsSaid : Prop := fnBitsRow.holds Try.pinned (OpenSpec.ofChange fnBitsSpec)

/-- ITS FALSE NEIGHBOUR: 'it returns false'. Refute it at one input. -/
def fnBitsWrong : ChangeSpec := { name := "fnBits", fn := fun _ => fun
  | [d] => { results := [.lit (.bool false)], args := [d] }
  | _ => none }
def FnBitsWrongFalsely : Prop := fnBitsRow.holds Try.pinned (OpenSpec.ofChange fnBitsWrong)

/-- 'laws.FnExactIsPoint': WHATEVER THE INPUT: true; the input reads as it did. -/
def fnExactIsPointSpec : ChangeSpec := { name := "fnExactIsPoint", fn := fun _ => fun
  | [d] => { results := [.lit (.bool true)], args := [d] }
  | _ => none }
def fnExactIsPointRow : OpenClaim := { program := "ytcdajnllhmadcaa", sum := "bdfd8ff45b35a63caca7e4af948c78df5913aea7cd8db585508e70760ecafe07", func := "loop.example/g01135/laws.FnExactIsPoint", spec := "fnExactIsPoint", apart := false }
def FnExactIsPointSaid : Prop := fnExactIsPointRow.holds Try.pinned (OpenSpec.ofChange fnExactIsPointSpec)

/-- ITS FALSE NEIGHBOUR: 'it returns false'. Refute it at one input. -/
def fnExactIsPointWrong : ChangeSpec := { name := "fnExactIsPoint", fn := fun _ => fun
  | [d] => { results := [.lit (.bool false)], args := [d] }
  | _ => none }
def FnExactIsPointWrongFalsely : Prop := fnExactIsPointRow.holds Try.pinned (OpenSpec.ofChange fnExactIsPointWrong)

/-- 'laws.FnExactIsSample': WHATEVER THE INPUT: true; the input reads as it did. -/
def fnExactIsSampleSpec : ChangeSpec := { name := "fnExactIsSample", fn := fun _ => fun
  | [d] => { results := [.lit (.bool true)], args := [d] }
  | _ => none }
def fnExactIsSampleRow : OpenClaim := { program := "ytcdajnllhmadcaa", sum := "bdfd8ff45b35a63caca7e4af948c78df5913aea7cd8db585508e70760ecafe07", func := "loop.example/g01135/laws.FnExactIsSample", spec := "fnExactIsSample", apart := false }
def FnExactIsSampleSaid : Prop := fnExactIsSampleRow.holds Try.pinned (OpenSpec.ofChange fnExactIsSampleSpec)

/-- ITS FALSE NEIGHBOUR: 'it returns false'. Refute it at one input. -/
def fnExactIsSampleWrong : ChangeSpec := { name := "fnExactIsSample", fn := fun _ => fun
  | [d] => { results := [.lit (.bool false)], args := [d] }
  | _ => none }
def FnExactIsSampleWrongFalsely : Prop := fnExactIsSampleRow.holds Try.pinned (OpenSpec.ofChange fnExactIsSampleWrong)

/-- 'laws.FnExactIsPlane': WHATEVER THE INPUT: true; the input reads as it did. -/
def fnExactIsPlaneSpec : ChangeSpec := { name := "fnExactIsPlane", fn := fun _ => fun
  | [d] => { results := [.lit (.bool true)], args := [d] }
  | _ => none }
def fnExactIsPlaneRow : OpenClaim := { program := "ytcdajnllhmadcaa", sum := "bdfd8ff45b35a63caca7e4af948c78df5913aea7cd8db585508e70760ecafe07", func := "loop.example/g01135/laws.FnExactIsPlane", spec := "fnExactIsPlane", apart := false }
def FnExactIsPlaneSaid : Prop := fnExactIsPlaneRow.holds Try.pinned (OpenSpec.ofChange fnExactIsPlaneSpec)

/-- ITS FALSE NEIGHBOUR: 'it returns false'. Refute it at one input. -/
def fnExactIsPlaneWrong : ChangeSpec := { name := "fnExactIsPlane", fn := fun _ => fun
  | [d] => { results := [.lit (.bool false)], args := [d] }
  | _ => none }
def FnExactIsPlaneWrongFalsely : Prop := fnExactIsPlaneRow.holds Try.pinned (OpenSpec.ofChange fnExactIsPlaneWrong)

/-- 'laws.FnExactProductOf': WHATEVER THE INPUT: true; the input reads as it did. -/
def fnExactProductOfSpec : ChangeSpec := { name := "fnExactProductOf", fn := fun _ => fun
  | [d1, d2] => { results := [.lit (.bool true)], args := [d1, d2] }
  | _ => none }
def fnExactProductOfRow : OpenClaim := { program := "ytcdajnllhmadcaa", sum := "bdfd8ff45b35a63caca7e4af948c78df5913aea7cd8db585508e70760ecafe07", func := "loop.example/g01135/laws.FnExactProductOf", spec := "fnExactProductOf", apart := false }
def FnExactProductOfSaid : Prop := fnExactProductOfRow.holds Try.pinned (OpenSpec.ofChange fnExactProductOfSpec)

/-- ITS FALSE NEIGHBOUR: 'it returns false'. Refute it at one input. -/
def fnExactProductOfWrong : ChangeSpec := { name := "fnExactProductOf", fn := fun _ => fun
  | [d1, d2] => { results := [.lit (.bool false)], args := [d1, d2] }
  | _ => none }
def FnExactProductOfWrongFalsely : Prop := fnExactProductOfRow.holds Try.pinned (OpenSpec.ofChange fnExactProductOfWrong)

/-- 'laws.FnExactSideOf': WHATEVER THE INPUT: true; the input reads as it did. -/
def fnExactSideOfSpec : ChangeSpec := { name := "fnExactSideOf", fn := fun _ => fun
  | [d1, d2] => { results := [.lit (.bool true)], args := [d1, d2] }
  | _ => none }
def fnExactSideOfRow : OpenClaim := { program := "ytcdajnllhmadcaa", sum := "bdfd8ff45b35a63caca7e4af948c78df5913aea7cd8db585508e70760ecafe07", func := "loop.example/g01135/laws.FnExactSideOf", spec := "fnExactSideOf", apart := false }
def FnExactSideOfSaid : Prop := fnExactSideOfRow.holds Try.pinned (OpenSpec.ofChange fnExactSideOfSpec)

/-- ITS FALSE NEIGHBOUR: 'it returns false'. Refute it at one input. -/
def fnExactSideOfWrong : ChangeSpec := { name := "fnExactSideOf", fn := fun _ => fun
  | [d1, d2] => { results := [.lit (.bool false)], args := [d1, d2] }
  | _ => none }
def FnExactSideOfWrongFalsely : Prop := fnExactSideOfRow.holds Try.pinned (OpenSpec.ofChange fnExactSideOfWrong)

/-- 'laws.FnExactSidesOf': WHATEVER THE INPUT: true; the input reads as it did. -/
def fnExactSidesOfSpec : ChangeSpec := { name := "fnExactSidesOf", fn := fun _ => fun
  | [d1, d2] => { results := [.lit (.bool true)], args := [d1, d2] }
  | _ => none }
def fnExactSidesOfRow : OpenClaim := { program := "ytcdajnllhmadcaa", sum := "bdfd8ff45b35a63caca7e4af948c78df5913aea7cd8db585508e70760ecafe07", func := "loop.example/g01135/laws.FnExactSidesOf", spec := "fnExactSidesOf", apart := false }
def FnExactSidesOfSaid : Prop := fnExactSidesOfRow.holds Try.pinned (OpenSpec.ofChange fnExactSidesOfSpec)

/-- ITS FALSE NEIGHBOUR: 'it returns false'. Refute it at one input. -/
def fnExactSidesOfWrong : ChangeSpec := { name := "fnExactSidesOf", fn := fun _ => fun
  | [d1, d2] => { results := [.lit (.bool false)], args := [d1, d2] }
  | _ => none }
def FnExactSidesOfWrongFalsely : Prop := fnExactSidesOfRow.holds Try.pinned (OpenSpec.ofChange fnExactSidesOfWrong)

/-- 'laws.FnExactMistakesOf': WHATEVER THE INPUT: true; the input reads as it did. -/
def fnExactMistakesOfSpec : ChangeSpec := { name := "fnExactMistakesOf", fn := fun _ => fun
  | [d1, d2] => { results := [.lit (.bool true)], args := [d1, d2] }
  | _ => none }
def fnExactMistakesOfRow : OpenClaim := { program := "ytcdajnllhmadcaa", sum := "bdfd8ff45b35a63caca7e4af948c78df5913aea7cd8db585508e70760ecafe07", func := "loop.example/g01135/laws.FnExactMistakesOf", spec := "fnExactMistakesOf", unfollowed := true, recurses := true, apart := false }
def FnExactMistakesOfSaid : Prop := fnExactMistakesOfRow.holds Try.pinned (OpenSpec.ofChange fnExactMistakesOfSpec)

/-- ITS FALSE NEIGHBOUR: 'it returns false'. Refute it at one input. -/
def fnExactMistakesOfWrong : ChangeSpec := { name := "fnExactMistakesOf", fn := fun _ => fun
  | [d1, d2] => { results := [.lit (.bool false)], args := [d1, d2] }
  | _ => none }
def FnExactMistakesOfWrongFalsely : Prop := fnExactMistakesOfRow.holds Try.pinned (OpenSpec.ofChange fnExactMistakesOfWrong)

/-- 'laws.FnExactFitsSample': WHATEVER THE INPUT: true; the input reads as it did. -/
def fnExactFitsSampleSpec : ChangeSpec := { name := "fnExactFitsSample", fn := fun _ => fun
  | [d1, d2] => { results := [.lit (.bool true)], args := [d1, d2] }
  | _ => none }
def fnExactFitsSampleRow : OpenClaim := { program := "ytcdajnllhmadcaa", sum := "bdfd8ff45b35a63caca7e4af948c78df5913aea7cd8db585508e70760ecafe07", func := "loop.example/g01135/laws.FnExactFitsSample", spec := "fnExactFitsSample", unfollowed := true, recurses := true, apart := false }
def FnExactFitsSampleSaid : Prop := fnExactFitsSampleRow.holds Try.pinned (OpenSpec.ofChange fnExactFitsSampleSpec)

/-- ITS FALSE NEIGHBOUR: 'it returns false'. Refute it at one input. -/
def fnExactFitsSampleWrong : ChangeSpec := { name := "fnExactFitsSample", fn := fun _ => fun
  | [d1, d2] => { results := [.lit (.bool false)], args := [d1, d2] }
  | _ => none }
def FnExactFitsSampleWrongFalsely : Prop := fnExactFitsSampleRow.holds Try.pinned (OpenSpec.ofChange fnExactFitsSampleWrong)

/-- 'laws.FnExactTurnPlane': WHATEVER THE INPUT: true; the input reads as it did. -/
def fnExactTurnPlaneSpec : ChangeSpec := { name := "fnExactTurnPlane", fn := fun _ => fun
  | [d] => { results := [.lit (.bool true)], args := [d] }
  | _ => none }
def fnExactTurnPlaneRow : OpenClaim := { program := "ytcdajnllhmadcaa", sum := "bdfd8ff45b35a63caca7e4af948c78df5913aea7cd8db585508e70760ecafe07", func := "loop.example/g01135/laws.FnExactTurnPlane", spec := "fnExactTurnPlane", apart := false }
def FnExactTurnPlaneSaid : Prop := fnExactTurnPlaneRow.holds Try.pinned (OpenSpec.ofChange fnExactTurnPlaneSpec)

/-- ITS FALSE NEIGHBOUR: 'it returns false'. Refute it at one input. -/
def fnExactTurnPlaneWrong : ChangeSpec := { name := "fnExactTurnPlane", fn := fun _ => fun
  | [d] => { results := [.lit (.bool false)], args := [d] }
  | _ => none }
def FnExactTurnPlaneWrongFalsely : Prop := fnExactTurnPlaneRow.holds Try.pinned (OpenSpec.ofChange fnExactTurnPlaneWrong)

/-- 'laws.FnExactTurnLabels': WHATEVER THE INPUT: true; the input reads as it did. -/
def fnExactTurnLabelsSpec : ChangeSpec := { name := "fnExactTurnLabels", fn := fun _ => fun
  | [d] => { results := [.lit (.bool true)], args := [d] }
  | _ => none }
def fnExactTurnLabelsRow : OpenClaim := { program := "ytcdajnllhmadcaa", sum := "bdfd8ff45b35a63caca7e4af948c78df5913aea7cd8db585508e70760ecafe07", func := "loop.example/g01135/laws.FnExactTurnLabels", spec := "fnExactTurnLabels", unfollowed := true, recurses := true, apart := false }
def FnExactTurnLabelsSaid : Prop := fnExactTurnLabelsRow.holds Try.pinned (OpenSpec.ofChange fnExactTurnLabelsSpec)

/-- ITS FALSE NEIGHBOUR: 'it returns false'. Refute it at one input. -/
def fnExactTurnLabelsWrong : ChangeSpec := { name := "fnExactTurnLabels", fn := fun _ => fun
  | [d] => { results := [.lit (.bool false)], args := [d] }
  | _ => none }
def FnExactTurnLabelsWrongFalsely : Prop := fnExactTurnLabelsRow.holds Try.pinned (OpenSpec.ofChange fnExactTurnLabelsWrong)

/-- 'laws.FnExactMoveSample': WHATEVER THE INPUT: true; the input reads as it did. -/
def fnExactMoveSampleSpec : ChangeSpec := { name := "fnExactMoveSample", fn := fun _ => fun
  | [d1, d2] => { results := [.lit (.bool true)], args := [d1, d2] }
  | _ => none }
def fnExactMoveSampleRow : OpenClaim := { program := "ytcdajnllhmadcaa", sum := "bdfd8ff45b35a63caca7e4af948c78df5913aea7cd8db585508e70760ecafe07", func := "loop.example/g01135/laws.FnExactMoveSample", spec := "fnExactMoveSample", unfollowed := true, recurses := true, apart := false }
def FnExactMoveSampleSaid : Prop := fnExactMoveSampleRow.holds Try.pinned (OpenSpec.ofChange fnExactMoveSampleSpec)

/-- ITS FALSE NEIGHBOUR: 'it returns false'. Refute it at one input. -/
def fnExactMoveSampleWrong : ChangeSpec := { name := "fnExactMoveSample", fn := fun _ => fun
  | [d1, d2] => { results := [.lit (.bool false)], args := [d1, d2] }
  | _ => none }
def FnExactMoveSampleWrongFalsely : Prop := fnExactMoveSampleRow.holds Try.pinned (OpenSpec.ofChange fnExactMoveSampleWrong)

/- THE SECOND FORM. 'bulk': how many values and letters a reading holds, each counted each time it is reached (what is shared counts as often as it is met; a slice's spare places count too). A statement '..UptoSaid' is the law's where the arguments, and the package variables that the reading takes, are together of bulk at most 1048576: NARROWER than '..Said'. Prove '..Said' where nothing that the law and all that it calls make is longer than what came in: it says more and counts as full. Else prove '..UptoSaid'. A law counts once. -/
mutual
def uptoBulk {H : Type} : DataW H → Nat
  | .lit (.string bytes) => bytes.length + 1
  | .lit _ => 1
  | .nil => 1
  | .ptr d => uptoBulk d + 1
  | .slice elems spare => uptoBulkAll elems + uptoBulkAll spare + 1
  | .agg parts => uptoBulkAll parts + 1
  | .iface _ d => uptoBulk d + 1
  | .map entries => uptoBulkEntries entries + 1
  | .held _ => 1
def uptoBulkAll {H : Type} : List (DataW H) → Nat
  | [] => 0
  | d :: r => uptoBulk d + uptoBulkAll r
def uptoBulkEntries {H : Type} : List (Lit × DataW H) → Nat
  | [] => 0
  | x :: r => uptoBulkEntry x + uptoBulkEntries r
def uptoBulkEntry {H : Type} : Lit × DataW H → Nat
  | (.string bytes, d) => bytes.length + uptoBulk d + 1
  | (_, d) => uptoBulk d + 1
 end
def uptoSmall : (H : Type) → List (DataW H) → Bool := fun _ ds => decide (uptoBulkAll ds ≤ 1048576)
def OpenSpec.upto (s : _root_.Go.ChangeSpec) : _root_.Go.OpenSpec := { _root_.Go.OpenSpec.ofChange s with cond := some uptoSmall }

/-- 'laws.FnBits', WHERE WHAT IT READS IS OF BULK AT MOST 1048576: true; the input reads as it did. -/
def fnBitsUptoRow : OpenClaim := { program := "ytcdajnllhmadcaa", sum := "bdfd8ff45b35a63caca7e4af948c78df5913aea7cd8db585508e70760ecafe07", func := "loop.example/g01135/laws.FnBits", spec := "fnBits", unfollowed := true, recurses := true, apart := false, narrowed := true }
def FnBitsUptoSaid : Prop := fnBitsUptoRow.holds Try.pinned (OpenSpec.upto fnBitsSpec)

/-- 'laws.FnExactIsPoint', WHERE WHAT IT READS IS OF BULK AT MOST 1048576: true; the input reads as it did. -/
def fnExactIsPointUptoRow : OpenClaim := { program := "ytcdajnllhmadcaa", sum := "bdfd8ff45b35a63caca7e4af948c78df5913aea7cd8db585508e70760ecafe07", func := "loop.example/g01135/laws.FnExactIsPoint", spec := "fnExactIsPoint", apart := false, narrowed := true }
def FnExactIsPointUptoSaid : Prop := fnExactIsPointUptoRow.holds Try.pinned (OpenSpec.upto fnExactIsPointSpec)

/-- 'laws.FnExactIsSample', WHERE WHAT IT READS IS OF BULK AT MOST 1048576: true; the input reads as it did. -/
def fnExactIsSampleUptoRow : OpenClaim := { program := "ytcdajnllhmadcaa", sum := "bdfd8ff45b35a63caca7e4af948c78df5913aea7cd8db585508e70760ecafe07", func := "loop.example/g01135/laws.FnExactIsSample", spec := "fnExactIsSample", apart := false, narrowed := true }
def FnExactIsSampleUptoSaid : Prop := fnExactIsSampleUptoRow.holds Try.pinned (OpenSpec.upto fnExactIsSampleSpec)

/-- 'laws.FnExactIsPlane', WHERE WHAT IT READS IS OF BULK AT MOST 1048576: true; the input reads as it did. -/
def fnExactIsPlaneUptoRow : OpenClaim := { program := "ytcdajnllhmadcaa", sum := "bdfd8ff45b35a63caca7e4af948c78df5913aea7cd8db585508e70760ecafe07", func := "loop.example/g01135/laws.FnExactIsPlane", spec := "fnExactIsPlane", apart := false, narrowed := true }
def FnExactIsPlaneUptoSaid : Prop := fnExactIsPlaneUptoRow.holds Try.pinned (OpenSpec.upto fnExactIsPlaneSpec)

/-- 'laws.FnExactProductOf', WHERE WHAT IT READS IS OF BULK AT MOST 1048576: true; the input reads as it did. -/
def fnExactProductOfUptoRow : OpenClaim := { program := "ytcdajnllhmadcaa", sum := "bdfd8ff45b35a63caca7e4af948c78df5913aea7cd8db585508e70760ecafe07", func := "loop.example/g01135/laws.FnExactProductOf", spec := "fnExactProductOf", apart := false, narrowed := true }
def FnExactProductOfUptoSaid : Prop := fnExactProductOfUptoRow.holds Try.pinned (OpenSpec.upto fnExactProductOfSpec)

/-- 'laws.FnExactSideOf', WHERE WHAT IT READS IS OF BULK AT MOST 1048576: true; the input reads as it did. -/
def fnExactSideOfUptoRow : OpenClaim := { program := "ytcdajnllhmadcaa", sum := "bdfd8ff45b35a63caca7e4af948c78df5913aea7cd8db585508e70760ecafe07", func := "loop.example/g01135/laws.FnExactSideOf", spec := "fnExactSideOf", apart := false, narrowed := true }
def FnExactSideOfUptoSaid : Prop := fnExactSideOfUptoRow.holds Try.pinned (OpenSpec.upto fnExactSideOfSpec)

/-- 'laws.FnExactSidesOf', WHERE WHAT IT READS IS OF BULK AT MOST 1048576: true; the input reads as it did. -/
def fnExactSidesOfUptoRow : OpenClaim := { program := "ytcdajnllhmadcaa", sum := "bdfd8ff45b35a63caca7e4af948c78df5913aea7cd8db585508e70760ecafe07", func := "loop.example/g01135/laws.FnExactSidesOf", spec := "fnExactSidesOf", apart := false, narrowed := true }
def FnExactSidesOfUptoSaid : Prop := fnExactSidesOfUptoRow.holds Try.pinned (OpenSpec.upto fnExactSidesOfSpec)

/-- 'laws.FnExactMistakesOf', WHERE WHAT IT READS IS OF BULK AT MOST 1048576: true; the input reads as it did. -/
def fnExactMistakesOfUptoRow : OpenClaim := { program := "ytcdajnllhmadcaa", sum := "bdfd8ff45b35a63caca7e4af948c78df5913aea7cd8db585508e70760ecafe07", func := "loop.example/g01135/laws.FnExactMistakesOf", spec := "fnExactMistakesOf", unfollowed := true, recurses := true, apart := false, narrowed := true }
def FnExactMistakesOfUptoSaid : Prop := fnExactMistakesOfUptoRow.holds Try.pinned (OpenSpec.upto fnExactMistakesOfSpec)

/-- 'laws.FnExactFitsSample', WHERE WHAT IT READS IS OF BULK AT MOST 1048576: true; the input reads as it did. -/
def fnExactFitsSampleUptoRow : OpenClaim := { program := "ytcdajnllhmadcaa", sum := "bdfd8ff45b35a63caca7e4af948c78df5913aea7cd8db585508e70760ecafe07", func := "loop.example/g01135/laws.FnExactFitsSample", spec := "fnExactFitsSample", unfollowed := true, recurses := true, apart := false, narrowed := true }
def FnExactFitsSampleUptoSaid : Prop := fnExactFitsSampleUptoRow.holds Try.pinned (OpenSpec.upto fnExactFitsSampleSpec)

/-- 'laws.FnExactTurnPlane', WHERE WHAT IT READS IS OF BULK AT MOST 1048576: true; the input reads as it did. -/
def fnExactTurnPlaneUptoRow : OpenClaim := { program := "ytcdajnllhmadcaa", sum := "bdfd8ff45b35a63caca7e4af948c78df5913aea7cd8db585508e70760ecafe07", func := "loop.example/g01135/laws.FnExactTurnPlane", spec := "fnExactTurnPlane", apart := false, narrowed := true }
def FnExactTurnPlaneUptoSaid : Prop := fnExactTurnPlaneUptoRow.holds Try.pinned (OpenSpec.upto fnExactTurnPlaneSpec)

/-- 'laws.FnExactTurnLabels', WHERE WHAT IT READS IS OF BULK AT MOST 1048576: true; the input reads as it did. -/
def fnExactTurnLabelsUptoRow : OpenClaim := { program := "ytcdajnllhmadcaa", sum := "bdfd8ff45b35a63caca7e4af948c78df5913aea7cd8db585508e70760ecafe07", func := "loop.example/g01135/laws.FnExactTurnLabels", spec := "fnExactTurnLabels", unfollowed := true, recurses := true, apart := false, narrowed := true }
def FnExactTurnLabelsUptoSaid : Prop := fnExactTurnLabelsUptoRow.holds Try.pinned (OpenSpec.upto fnExactTurnLabelsSpec)

/-- 'laws.FnExactMoveSample', WHERE WHAT IT READS IS OF BULK AT MOST 1048576: true; the input reads as it did. -/
def fnExactMoveSampleUptoRow : OpenClaim := { program := "ytcdajnllhmadcaa", sum := "bdfd8ff45b35a63caca7e4af948c78df5913aea7cd8db585508e70760ecafe07", func := "loop.example/g01135/laws.FnExactMoveSample", spec := "fnExactMoveSample", unfollowed := true, recurses := true, apart := false, narrowed := true }
def FnExactMoveSampleUptoSaid : Prop := fnExactMoveSampleUptoRow.holds Try.pinned (OpenSpec.upto fnExactMoveSampleSpec)

end Rows
end Go.Proofs.Ytcdajnllhmadcaa
