/-
  No cell of these rows narrows 'for every input' (looked for: loops, veiled, ifaces, maps, wideKeys, modest, calm, conditions, laid).
  DERIVED. THE GIVEN ROWS OF THIS SEAT. 12 by the template 'for every input the law returns true; each argument reads behind the call as it read before'; 0 by the template 'total and deterministic' (their statements: YtoephhhofkmgjaaTotals.lean).
  GIVEN WITH THE SEED: the statements are not yours to turn. If you find one false, say at which input.
  Laid BY PROGRAM, IN A SANDBOX (cutbox-rows.mjs): the forced cells as the released guide's own fill.sh prints them over the translation ea294dcf5675319f… (all of the seat's roots in one cut). By AI agents, Wed Nov 11 2026. No macro, syntax, notation, axiom, sorry.
-/
import Derived.Test.YtoephhhofkmgjaaChecked
import GoSem.Claim
import GoSem.ClaimJoined
import GoSem.ClaimMapViews
import Derived.JoinedTies
import Derived.KernelRfl
namespace Go.Proofs.Ytoephhhofkmgjaa
/- THE CELL 'sum', in the pinned program and in every row, IS THE sha256 OF THE DUMP (.gsa) THAT YtoephhhofkmgjaaProg.lean LOADS. Nothing in Lean hashes anything: it is a label: what it is worth is what the hold of that sum in a sandbox is worth. -/
noncomputable def Try.pinned : Pinned := { name := "ytoephhhofkmgjaa", sum := "ea294dcf5675319f1682ec3891e9d58cbdcc6303a45da7325989ab6408c045f6", checked := Try.checked }
namespace Rows
def none {H : Type} : Left H := { results := [], args := [] }

/-- 'laws.FnExactIsNet': WHATEVER THE INPUT: true; the input reads as it did. -/
def fnExactIsNetSpec : ChangeSpec := { name := "fnExactIsNet", fn := fun _ => fun
  | [d] => { results := [.lit (.bool true)], args := [d] }
  | _ => none }
def fnExactIsNetRow : OpenClaim := { program := "ytoephhhofkmgjaa", sum := "ea294dcf5675319f1682ec3891e9d58cbdcc6303a45da7325989ab6408c045f6", func := "loop.example/g01135/laws.FnExactIsNet", spec := "fnExactIsNet", unfollowed := true, recurses := true, apart := false }
def FnExactIsNetSaid : Prop := fnExactIsNetRow.holds Try.pinned (OpenSpec.ofChange fnExactIsNetSpec)

/-- ITS FALSE NEIGHBOUR: 'it returns false'. Refute it at one input. -/
def fnExactIsNetWrong : ChangeSpec := { name := "fnExactIsNet", fn := fun _ => fun
  | [d] => { results := [.lit (.bool false)], args := [d] }
  | _ => none }
def FnExactIsNetWrongFalsely : Prop := fnExactIsNetRow.holds Try.pinned (OpenSpec.ofChange fnExactIsNetWrong)

/-- 'laws.FnExactEvaluateNet': WHATEVER THE INPUT: true; the input reads as it did. -/
def fnExactEvaluateNetSpec : ChangeSpec := { name := "fnExactEvaluateNet", fn := fun _ => fun
  | [d1, d2] => { results := [.lit (.bool true)], args := [d1, d2] }
  | _ => none }
def fnExactEvaluateNetRow : OpenClaim := { program := "ytoephhhofkmgjaa", sum := "ea294dcf5675319f1682ec3891e9d58cbdcc6303a45da7325989ab6408c045f6", func := "loop.example/g01135/laws.FnExactEvaluateNet", spec := "fnExactEvaluateNet", unfollowed := true, recurses := true, apart := false }
def FnExactEvaluateNetSaid : Prop := fnExactEvaluateNetRow.holds Try.pinned (OpenSpec.ofChange fnExactEvaluateNetSpec)

/-- ITS FALSE NEIGHBOUR: 'it returns false'. Refute it at one input. -/
def fnExactEvaluateNetWrong : ChangeSpec := { name := "fnExactEvaluateNet", fn := fun _ => fun
  | [d1, d2] => { results := [.lit (.bool false)], args := [d1, d2] }
  | _ => none }
def FnExactEvaluateNetWrongFalsely : Prop := fnExactEvaluateNetRow.holds Try.pinned (OpenSpec.ofChange fnExactEvaluateNetWrong)

/-- 'laws.FnExactNetTables': WHATEVER THE INPUT: true; the input reads as it did. -/
def fnExactNetTablesSpec : ChangeSpec := { name := "fnExactNetTables", fn := fun _ => fun
  | [d] => { results := [.lit (.bool true)], args := [d] }
  | _ => none }
def fnExactNetTablesRow : OpenClaim := { program := "ytoephhhofkmgjaa", sum := "ea294dcf5675319f1682ec3891e9d58cbdcc6303a45da7325989ab6408c045f6", func := "loop.example/g01135/laws.FnExactNetTables", spec := "fnExactNetTables", unfollowed := true, recurses := true, apart := false }
def FnExactNetTablesSaid : Prop := fnExactNetTablesRow.holds Try.pinned (OpenSpec.ofChange fnExactNetTablesSpec)

/-- ITS FALSE NEIGHBOUR: 'it returns false'. Refute it at one input. -/
def fnExactNetTablesWrong : ChangeSpec := { name := "fnExactNetTables", fn := fun _ => fun
  | [d] => { results := [.lit (.bool false)], args := [d] }
  | _ => none }
def FnExactNetTablesWrongFalsely : Prop := fnExactNetTablesRow.holds Try.pinned (OpenSpec.ofChange fnExactNetTablesWrong)

/-- 'laws.FnExactGateCount': WHATEVER THE INPUT: true; the input reads as it did. -/
def fnExactGateCountSpec : ChangeSpec := { name := "fnExactGateCount", fn := fun _ => fun
  | [d] => { results := [.lit (.bool true)], args := [d] }
  | _ => none }
def fnExactGateCountRow : OpenClaim := { program := "ytoephhhofkmgjaa", sum := "ea294dcf5675319f1682ec3891e9d58cbdcc6303a45da7325989ab6408c045f6", func := "loop.example/g01135/laws.FnExactGateCount", spec := "fnExactGateCount", unfollowed := true, recurses := true, apart := false }
def FnExactGateCountSaid : Prop := fnExactGateCountRow.holds Try.pinned (OpenSpec.ofChange fnExactGateCountSpec)

/-- ITS FALSE NEIGHBOUR: 'it returns false'. Refute it at one input. -/
def fnExactGateCountWrong : ChangeSpec := { name := "fnExactGateCount", fn := fun _ => fun
  | [d] => { results := [.lit (.bool false)], args := [d] }
  | _ => none }
def FnExactGateCountWrongFalsely : Prop := fnExactGateCountRow.holds Try.pinned (OpenSpec.ofChange fnExactGateCountWrong)

/-- 'laws.FnExactWeightSum': WHATEVER THE INPUT: true; the input reads as it did. -/
def fnExactWeightSumSpec : ChangeSpec := { name := "fnExactWeightSum", fn := fun _ => fun
  | [d] => { results := [.lit (.bool true)], args := [d] }
  | _ => none }
def fnExactWeightSumRow : OpenClaim := { program := "ytoephhhofkmgjaa", sum := "ea294dcf5675319f1682ec3891e9d58cbdcc6303a45da7325989ab6408c045f6", func := "loop.example/g01135/laws.FnExactWeightSum", spec := "fnExactWeightSum", unfollowed := true, recurses := true, apart := false }
def FnExactWeightSumSaid : Prop := fnExactWeightSumRow.holds Try.pinned (OpenSpec.ofChange fnExactWeightSumSpec)

/-- ITS FALSE NEIGHBOUR: 'it returns false'. Refute it at one input. -/
def fnExactWeightSumWrong : ChangeSpec := { name := "fnExactWeightSum", fn := fun _ => fun
  | [d] => { results := [.lit (.bool false)], args := [d] }
  | _ => none }
def FnExactWeightSumWrongFalsely : Prop := fnExactWeightSumRow.holds Try.pinned (OpenSpec.ofChange fnExactWeightSumWrong)

/-- 'laws.FnExactParityNet': WHATEVER THE INPUT: true; the input reads as it did. -/
def fnExactParityNetSpec : ChangeSpec := { name := "fnExactParityNet", fn := fun _ => fun
  | [d] => { results := [.lit (.bool true)], args := [d] }
  | _ => none }
def fnExactParityNetRow : OpenClaim := { program := "ytoephhhofkmgjaa", sum := "ea294dcf5675319f1682ec3891e9d58cbdcc6303a45da7325989ab6408c045f6", func := "loop.example/g01135/laws.FnExactParityNet", spec := "fnExactParityNet", apart := false }
def FnExactParityNetSaid : Prop := fnExactParityNetRow.holds Try.pinned (OpenSpec.ofChange fnExactParityNetSpec)

/-- ITS FALSE NEIGHBOUR: 'it returns false'. Refute it at one input. -/
def fnExactParityNetWrong : ChangeSpec := { name := "fnExactParityNet", fn := fun _ => fun
  | [d] => { results := [.lit (.bool false)], args := [d] }
  | _ => none }
def FnExactParityNetWrongFalsely : Prop := fnExactParityNetRow.holds Try.pinned (OpenSpec.ofChange fnExactParityNetWrong)

/-- 'laws.FnExactMajorityNet': WHATEVER THE INPUT: true; the input reads as it did. -/
def fnExactMajorityNetSpec : ChangeSpec := { name := "fnExactMajorityNet", fn := fun _ => fun
  | [d] => { results := [.lit (.bool true)], args := [d] }
  | _ => none }
def fnExactMajorityNetRow : OpenClaim := { program := "ytoephhhofkmgjaa", sum := "ea294dcf5675319f1682ec3891e9d58cbdcc6303a45da7325989ab6408c045f6", func := "loop.example/g01135/laws.FnExactMajorityNet", spec := "fnExactMajorityNet", apart := false }
def FnExactMajorityNetSaid : Prop := fnExactMajorityNetRow.holds Try.pinned (OpenSpec.ofChange fnExactMajorityNetSpec)

/-- ITS FALSE NEIGHBOUR: 'it returns false'. Refute it at one input. -/
def fnExactMajorityNetWrong : ChangeSpec := { name := "fnExactMajorityNet", fn := fun _ => fun
  | [d] => { results := [.lit (.bool false)], args := [d] }
  | _ => none }
def FnExactMajorityNetWrongFalsely : Prop := fnExactMajorityNetRow.holds Try.pinned (OpenSpec.ofChange fnExactMajorityNetWrong)

/-- 'laws.FnExactCompareNet': WHATEVER THE INPUT: true; the input reads as it did. -/
def fnExactCompareNetSpec : ChangeSpec := { name := "fnExactCompareNet", fn := fun _ => fun
  | [d] => { results := [.lit (.bool true)], args := [d] }
  | _ => none }
def fnExactCompareNetRow : OpenClaim := { program := "ytoephhhofkmgjaa", sum := "ea294dcf5675319f1682ec3891e9d58cbdcc6303a45da7325989ab6408c045f6", func := "loop.example/g01135/laws.FnExactCompareNet", spec := "fnExactCompareNet", apart := false }
def FnExactCompareNetSaid : Prop := fnExactCompareNetRow.holds Try.pinned (OpenSpec.ofChange fnExactCompareNetSpec)

/-- ITS FALSE NEIGHBOUR: 'it returns false'. Refute it at one input. -/
def fnExactCompareNetWrong : ChangeSpec := { name := "fnExactCompareNet", fn := fun _ => fun
  | [d] => { results := [.lit (.bool false)], args := [d] }
  | _ => none }
def FnExactCompareNetWrongFalsely : Prop := fnExactCompareNetRow.holds Try.pinned (OpenSpec.ofChange fnExactCompareNetWrong)

/-- 'laws.FnExactNegateNet': WHATEVER THE INPUT: true; the input reads as it did. -/
def fnExactNegateNetSpec : ChangeSpec := { name := "fnExactNegateNet", fn := fun _ => fun
  | [d] => { results := [.lit (.bool true)], args := [d] }
  | _ => none }
def fnExactNegateNetRow : OpenClaim := { program := "ytoephhhofkmgjaa", sum := "ea294dcf5675319f1682ec3891e9d58cbdcc6303a45da7325989ab6408c045f6", func := "loop.example/g01135/laws.FnExactNegateNet", spec := "fnExactNegateNet", unfollowed := true, recurses := true, apart := false }
def FnExactNegateNetSaid : Prop := fnExactNegateNetRow.holds Try.pinned (OpenSpec.ofChange fnExactNegateNetSpec)

/-- ITS FALSE NEIGHBOUR: 'it returns false'. Refute it at one input. -/
def fnExactNegateNetWrong : ChangeSpec := { name := "fnExactNegateNet", fn := fun _ => fun
  | [d] => { results := [.lit (.bool false)], args := [d] }
  | _ => none }
def FnExactNegateNetWrongFalsely : Prop := fnExactNegateNetRow.holds Try.pinned (OpenSpec.ofChange fnExactNegateNetWrong)

/-- 'laws.FnExactJoinNets': WHATEVER THE INPUT: true; the input reads as it did. -/
def fnExactJoinNetsSpec : ChangeSpec := { name := "fnExactJoinNets", fn := fun _ => fun
  | [d1, d2] => { results := [.lit (.bool true)], args := [d1, d2] }
  | _ => none }
def fnExactJoinNetsRow : OpenClaim := { program := "ytoephhhofkmgjaa", sum := "ea294dcf5675319f1682ec3891e9d58cbdcc6303a45da7325989ab6408c045f6", func := "loop.example/g01135/laws.FnExactJoinNets", spec := "fnExactJoinNets", unfollowed := true, recurses := true, apart := false }
def FnExactJoinNetsSaid : Prop := fnExactJoinNetsRow.holds Try.pinned (OpenSpec.ofChange fnExactJoinNetsSpec)

/-- ITS FALSE NEIGHBOUR: 'it returns false'. Refute it at one input. -/
def fnExactJoinNetsWrong : ChangeSpec := { name := "fnExactJoinNets", fn := fun _ => fun
  | [d1, d2] => { results := [.lit (.bool false)], args := [d1, d2] }
  | _ => none }
def FnExactJoinNetsWrongFalsely : Prop := fnExactJoinNetsRow.holds Try.pinned (OpenSpec.ofChange fnExactJoinNetsWrong)

/-- 'laws.FnExactAfterNet': WHATEVER THE INPUT: true; the input reads as it did. -/
def fnExactAfterNetSpec : ChangeSpec := { name := "fnExactAfterNet", fn := fun _ => fun
  | [d1, d2] => { results := [.lit (.bool true)], args := [d1, d2] }
  | _ => none }
def fnExactAfterNetRow : OpenClaim := { program := "ytoephhhofkmgjaa", sum := "ea294dcf5675319f1682ec3891e9d58cbdcc6303a45da7325989ab6408c045f6", func := "loop.example/g01135/laws.FnExactAfterNet", spec := "fnExactAfterNet", unfollowed := true, recurses := true, apart := false }
def FnExactAfterNetSaid : Prop := fnExactAfterNetRow.holds Try.pinned (OpenSpec.ofChange fnExactAfterNetSpec)

/-- ITS FALSE NEIGHBOUR: 'it returns false'. Refute it at one input. -/
def fnExactAfterNetWrong : ChangeSpec := { name := "fnExactAfterNet", fn := fun _ => fun
  | [d1, d2] => { results := [.lit (.bool false)], args := [d1, d2] }
  | _ => none }
def FnExactAfterNetWrongFalsely : Prop := fnExactAfterNetRow.holds Try.pinned (OpenSpec.ofChange fnExactAfterNetWrong)

/-- 'laws.FnExactSidesSample': WHATEVER THE INPUT: true; the input reads as it did. -/
def fnExactSidesSampleSpec : ChangeSpec := { name := "fnExactSidesSample", fn := fun _ => fun
  | [d1, d2] => { results := [.lit (.bool true)], args := [d1, d2] }
  | _ => none }
def fnExactSidesSampleRow : OpenClaim := { program := "ytoephhhofkmgjaa", sum := "ea294dcf5675319f1682ec3891e9d58cbdcc6303a45da7325989ab6408c045f6", func := "loop.example/g01135/laws.FnExactSidesSample", spec := "fnExactSidesSample", unfollowed := true, recurses := true, apart := false }
def FnExactSidesSampleSaid : Prop := fnExactSidesSampleRow.holds Try.pinned (OpenSpec.ofChange fnExactSidesSampleSpec)

/-- ITS FALSE NEIGHBOUR: 'it returns false'. Refute it at one input. -/
def fnExactSidesSampleWrong : ChangeSpec := { name := "fnExactSidesSample", fn := fun _ => fun
  | [d1, d2] => { results := [.lit (.bool false)], args := [d1, d2] }
  | _ => none }
def FnExactSidesSampleWrongFalsely : Prop := fnExactSidesSampleRow.holds Try.pinned (OpenSpec.ofChange fnExactSidesSampleWrong)

/- THE SECOND FORM. 'bulk': how many values and letters a reading holds, each counted each time it is reached (what is shared counts as often as it is met; a slice's spare places count too). A statement '..UptoSaid' is the law's where the arguments, and the package variables that the reading takes, are together of bulk at most 1048576: NARROWER than '..Said'. Prove '..Said' where nothing that the law and all that it calls make is longer than what came in: it says more and counts as full. Else prove '..UptoSaid'. A law counts once. -/
mutual
def uptoBulk {H : Type} : DataW H → Nat
  | .lit (.string bytes) => bytes.length + 1
  | .lit _ => 1
  | .nil => 1
  | .ptr d => uptoBulk d + 1
  | .slice elems spare => uptoBulkAll elems + uptoBulkAll spare + 1
  | .agg parts => uptoBulkAll parts + 1
  | .iface _ d => uptoBulk d + 1
  | .map entries => uptoBulkEntries entries + 1
  | .held _ => 1
def uptoBulkAll {H : Type} : List (DataW H) → Nat
  | [] => 0
  | d :: r => uptoBulk d + uptoBulkAll r
def uptoBulkEntries {H : Type} : List (Lit × DataW H) → Nat
  | [] => 0
  | x :: r => uptoBulkEntry x + uptoBulkEntries r
def uptoBulkEntry {H : Type} : Lit × DataW H → Nat
  | (.string bytes, d) => bytes.length + uptoBulk d + 1
  | (_, d) => uptoBulk d + 1
 end
def uptoSmall : (H : Type) → List (DataW H) → Bool := fun _ ds => decide (uptoBulkAll ds ≤ 1048576)
def OpenSpec.upto (s : _root_.Go.ChangeSpec) : _root_.Go.OpenSpec := { _root_.Go.OpenSpec.ofChange s with cond := some uptoSmall }

/-- 'laws.FnExactIsNet', WHERE WHAT IT READS IS OF BULK AT MOST 1048576: true; the input reads as it did. -/
def fnExactIsNetUptoRow : OpenClaim := { program := "ytoephhhofkmgjaa", sum := "ea294dcf5675319f1682ec3891e9d58cbdcc6303a45da7325989ab6408c045f6", func := "loop.example/g01135/laws.FnExactIsNet", spec := "fnExactIsNet", unfollowed := true, recurses := true, apart := false, narrowed := true }
def FnExactIsNetUptoSaid : Prop := fnExactIsNetUptoRow.holds Try.pinned (OpenSpec.upto fnExactIsNetSpec)

/-- 'laws.FnExactEvaluateNet', WHERE WHAT IT READS IS OF BULK AT MOST 1048576: true; the input reads as it did. -/
def fnExactEvaluateNetUptoRow : OpenClaim := { program := "ytoephhhofkmgjaa", sum := "ea294dcf5675319f1682ec3891e9d58cbdcc6303a45da7325989ab6408c045f6", func := "loop.example/g01135/laws.FnExactEvaluateNet", spec := "fnExactEvaluateNet", unfollowed := true, recurses := true, apart := false, narrowed := true }
def FnExactEvaluateNetUptoSaid : Prop := fnExactEvaluateNetUptoRow.holds Try.pinned (OpenSpec.upto fnExactEvaluateNetSpec)

/-- 'laws.FnExactNetTables', WHERE WHAT IT READS IS OF BULK AT MOST 1048576: true; the input reads as it did. -/
def fnExactNetTablesUptoRow : OpenClaim := { program := "ytoephhhofkmgjaa", sum := "ea294dcf5675319f1682ec3891e9d58cbdcc6303a45da7325989ab6408c045f6", func := "loop.example/g01135/laws.FnExactNetTables", spec := "fnExactNetTables", unfollowed := true, recurses := true, apart := false, narrowed := true }
def FnExactNetTablesUptoSaid : Prop := fnExactNetTablesUptoRow.holds Try.pinned (OpenSpec.upto fnExactNetTablesSpec)

/-- 'laws.FnExactGateCount', WHERE WHAT IT READS IS OF BULK AT MOST 1048576: true; the input reads as it did. -/
def fnExactGateCountUptoRow : OpenClaim := { program := "ytoephhhofkmgjaa", sum := "ea294dcf5675319f1682ec3891e9d58cbdcc6303a45da7325989ab6408c045f6", func := "loop.example/g01135/laws.FnExactGateCount", spec := "fnExactGateCount", unfollowed := true, recurses := true, apart := false, narrowed := true }
def FnExactGateCountUptoSaid : Prop := fnExactGateCountUptoRow.holds Try.pinned (OpenSpec.upto fnExactGateCountSpec)

/-- 'laws.FnExactWeightSum', WHERE WHAT IT READS IS OF BULK AT MOST 1048576: true; the input reads as it did. -/
def fnExactWeightSumUptoRow : OpenClaim := { program := "ytoephhhofkmgjaa", sum := "ea294dcf5675319f1682ec3891e9d58cbdcc6303a45da7325989ab6408c045f6", func := "loop.example/g01135/laws.FnExactWeightSum", spec := "fnExactWeightSum", unfollowed := true, recurses := true, apart := false, narrowed := true }
def FnExactWeightSumUptoSaid : Prop := fnExactWeightSumUptoRow.holds Try.pinned (OpenSpec.upto fnExactWeightSumSpec)

/-- 'laws.FnExactParityNet', WHERE WHAT IT READS IS OF BULK AT MOST 1048576: true; the input reads as it did. -/
def fnExactParityNetUptoRow : OpenClaim := { program := "ytoephhhofkmgjaa", sum := "ea294dcf5675319f1682ec3891e9d58cbdcc6303a45da7325989ab6408c045f6", func := "loop.example/g01135/laws.FnExactParityNet", spec := "fnExactParityNet", apart := false, narrowed := true }
def FnExactParityNetUptoSaid : Prop := fnExactParityNetUptoRow.holds Try.pinned (OpenSpec.upto fnExactParityNetSpec)

/-- 'laws.FnExactMajorityNet', WHERE WHAT IT READS IS OF BULK AT MOST 1048576: true; the input reads as it did. -/
def fnExactMajorityNetUptoRow : OpenClaim := { program := "ytoephhhofkmgjaa", sum := "ea294dcf5675319f1682ec3891e9d58cbdcc6303a45da7325989ab6408c045f6", func := "loop.example/g01135/laws.FnExactMajorityNet", spec := "fnExactMajorityNet", apart := false, narrowed := true }
def FnExactMajorityNetUptoSaid : Prop := fnExactMajorityNetUptoRow.holds Try.pinned (OpenSpec.upto fnExactMajorityNetSpec)

/-- 'laws.FnExactCompareNet', WHERE WHAT IT READS IS OF BULK AT MOST 1048576: true; the input reads as it did. -/
def fnExactCompareNetUptoRow : OpenClaim := { program := "ytoephhhofkmgjaa", sum := "ea294dcf5675319f1682ec3891e9d58cbdcc6303a45da7325989ab6408c045f6", func := "loop.example/g01135/laws.FnExactCompareNet", spec := "fnExactCompareNet", apart := false, narrowed := true }
def FnExactCompareNetUptoSaid : Prop := fnExactCompareNetUptoRow.holds Try.pinned (OpenSpec.upto fnExactCompareNetSpec)

/-- 'laws.FnExactNegateNet', WHERE WHAT IT READS IS OF BULK AT MOST 1048576: true; the input reads as it did. -/
def fnExactNegateNetUptoRow : OpenClaim := { program := "ytoephhhofkmgjaa", sum := "ea294dcf5675319f1682ec3891e9d58cbdcc6303a45da7325989ab6408c045f6", func := "loop.example/g01135/laws.FnExactNegateNet", spec := "fnExactNegateNet", unfollowed := true, recurses := true, apart := false, narrowed := true }
def FnExactNegateNetUptoSaid : Prop := fnExactNegateNetUptoRow.holds Try.pinned (OpenSpec.upto fnExactNegateNetSpec)

/-- 'laws.FnExactJoinNets', WHERE WHAT IT READS IS OF BULK AT MOST 1048576: true; the input reads as it did. -/
def fnExactJoinNetsUptoRow : OpenClaim := { program := "ytoephhhofkmgjaa", sum := "ea294dcf5675319f1682ec3891e9d58cbdcc6303a45da7325989ab6408c045f6", func := "loop.example/g01135/laws.FnExactJoinNets", spec := "fnExactJoinNets", unfollowed := true, recurses := true, apart := false, narrowed := true }
def FnExactJoinNetsUptoSaid : Prop := fnExactJoinNetsUptoRow.holds Try.pinned (OpenSpec.upto fnExactJoinNetsSpec)

/-- 'laws.FnExactAfterNet', WHERE WHAT IT READS IS OF BULK AT MOST 1048576: true; the input reads as it did. -/
def fnExactAfterNetUptoRow : OpenClaim := { program := "ytoephhhofkmgjaa", sum := "ea294dcf5675319f1682ec3891e9d58cbdcc6303a45da7325989ab6408c045f6", func := "loop.example/g01135/laws.FnExactAfterNet", spec := "fnExactAfterNet", unfollowed := true, recurses := true, apart := false, narrowed := true }
def FnExactAfterNetUptoSaid : Prop := fnExactAfterNetUptoRow.holds Try.pinned (OpenSpec.upto fnExactAfterNetSpec)

/-- 'laws.FnExactSidesSample', WHERE WHAT IT READS IS OF BULK AT MOST 1048576: true; the input reads as it did. -/
def fnExactSidesSampleUptoRow : OpenClaim := { program := "ytoephhhofkmgjaa", sum := "ea294dcf5675319f1682ec3891e9d58cbdcc6303a45da7325989ab6408c045f6", func := "loop.example/g01135/laws.FnExactSidesSample", spec := "fnExactSidesSample", unfollowed := true, recurses := true, apart := false, narrowed := true }
def FnExactSidesSampleUptoSaid : Prop := fnExactSidesSampleUptoRow.holds Try.pinned (OpenSpec.upto fnExactSidesSampleSpec)

end Rows
end Go.Proofs.Ytoephhhofkmgjaa
