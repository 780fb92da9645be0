/-
  No cell of these rows narrows 'for every input' (looked for: loops, veiled, ifaces, maps, wideKeys, modest, calm, conditions, laid).
  DERIVED. THE GIVEN ROWS OF THIS SEAT. 12 by the template 'for every input the law returns true; each argument reads behind the call as it read before'; 0 by the template 'total and deterministic' (their statements: YtchlkcmgonbcjaaTotals.lean).
  GIVEN WITH THE SEED: the statements are not yours to turn. If you find one false, say at which input.
  Laid BY PROGRAM, IN A SANDBOX (cutbox-rows.mjs): the forced cells as the released guide's own fill.sh prints them over the translation 8b363de11c35592f… (all of the seat's roots in one cut). By AI agents, Wed Nov 11 2026. No macro, syntax, notation, axiom, sorry.
-/
import Derived.Test.YtchlkcmgonbcjaaChecked
import GoSem.Claim
import GoSem.ClaimJoined
import GoSem.ClaimMapViews
import Derived.JoinedTies
import Derived.KernelRfl
namespace Go.Proofs.Ytchlkcmgonbcjaa
/- THE CELL 'sum', in the pinned program and in every row, IS THE sha256 OF THE DUMP (.gsa) THAT YtchlkcmgonbcjaaProg.lean LOADS. Nothing in Lean hashes anything: it is a label: what it is worth is what the hold of that sum in a sandbox is worth. -/
noncomputable def Try.pinned : Pinned := { name := "ytchlkcmgonbcjaa", sum := "8b363de11c35592fa3e7dfa8fa4e59e84919036d2dece486d7921f10fdb8a862", checked := Try.checked }
namespace Rows
def none {H : Type} : Left H := { results := [], args := [] }

/-- 'laws.FnExactIsTable': WHATEVER THE INPUT: true; the input reads as it did. -/
def fnExactIsTableSpec : ChangeSpec := { name := "fnExactIsTable", fn := fun _ => fun
  | [d1, d2] => { results := [.lit (.bool true)], args := [d1, d2] }
  | _ => none }
def fnExactIsTableRow : OpenClaim := { program := "ytchlkcmgonbcjaa", sum := "8b363de11c35592fa3e7dfa8fa4e59e84919036d2dece486d7921f10fdb8a862", func := "loop.example/g01135/laws.FnExactIsTable", spec := "fnExactIsTable", unfollowed := true, recurses := true, apart := false }
def FnExactIsTableSaid : Prop := fnExactIsTableRow.holds Try.pinned (OpenSpec.ofChange fnExactIsTableSpec)

/-- ITS FALSE NEIGHBOUR: 'it returns false'. Refute it at one input. -/
def fnExactIsTableWrong : ChangeSpec := { name := "fnExactIsTable", fn := fun _ => fun
  | [d1, d2] => { results := [.lit (.bool false)], args := [d1, d2] }
  | _ => none }
def FnExactIsTableWrongFalsely : Prop := fnExactIsTableRow.holds Try.pinned (OpenSpec.ofChange fnExactIsTableWrong)

/-- 'laws.FnExactIsTrade': WHATEVER THE INPUT: true; the input reads as it did. -/
def fnExactIsTradeSpec : ChangeSpec := { name := "fnExactIsTrade", fn := fun _ => fun
  | [d1, d2, d3] => { results := [.lit (.bool true)], args := [d1, d2, d3] }
  | _ => none }
def fnExactIsTradeRow : OpenClaim := { program := "ytchlkcmgonbcjaa", sum := "8b363de11c35592fa3e7dfa8fa4e59e84919036d2dece486d7921f10fdb8a862", func := "loop.example/g01135/laws.FnExactIsTrade", spec := "fnExactIsTrade", unfollowed := true, recurses := true, apart := false }
def FnExactIsTradeSaid : Prop := fnExactIsTradeRow.holds Try.pinned (OpenSpec.ofChange fnExactIsTradeSpec)

/-- ITS FALSE NEIGHBOUR: 'it returns false'. Refute it at one input. -/
def fnExactIsTradeWrong : ChangeSpec := { name := "fnExactIsTrade", fn := fun _ => fun
  | [d1, d2, d3] => { results := [.lit (.bool false)], args := [d1, d2, d3] }
  | _ => none }
def FnExactIsTradeWrongFalsely : Prop := fnExactIsTradeRow.holds Try.pinned (OpenSpec.ofChange fnExactIsTradeWrong)

/-- 'laws.FnExactChowNumbers': WHATEVER THE INPUT: true; the input reads as it did. -/
def fnExactChowNumbersSpec : ChangeSpec := { name := "fnExactChowNumbers", fn := fun _ => fun
  | [d1, d2] => { results := [.lit (.bool true)], args := [d1, d2] }
  | _ => none }
def fnExactChowNumbersRow : OpenClaim := { program := "ytchlkcmgonbcjaa", sum := "8b363de11c35592fa3e7dfa8fa4e59e84919036d2dece486d7921f10fdb8a862", func := "loop.example/g01135/laws.FnExactChowNumbers", spec := "fnExactChowNumbers", unfollowed := true, recurses := true, apart := false }
def FnExactChowNumbersSaid : Prop := fnExactChowNumbersRow.holds Try.pinned (OpenSpec.ofChange fnExactChowNumbersSpec)

/-- ITS FALSE NEIGHBOUR: 'it returns false'. Refute it at one input. -/
def fnExactChowNumbersWrong : ChangeSpec := { name := "fnExactChowNumbers", fn := fun _ => fun
  | [d1, d2] => { results := [.lit (.bool false)], args := [d1, d2] }
  | _ => none }
def FnExactChowNumbersWrongFalsely : Prop := fnExactChowNumbersRow.holds Try.pinned (OpenSpec.ofChange fnExactChowNumbersWrong)

/-- 'laws.FnExactBitSigns': WHATEVER THE INPUT: true; the input reads as it did. -/
def fnExactBitSignsSpec : ChangeSpec := { name := "fnExactBitSigns", fn := fun _ => fun
  | [d1, d2] => { results := [.lit (.bool true)], args := [d1, d2] }
  | _ => none }
def fnExactBitSignsRow : OpenClaim := { program := "ytchlkcmgonbcjaa", sum := "8b363de11c35592fa3e7dfa8fa4e59e84919036d2dece486d7921f10fdb8a862", func := "loop.example/g01135/laws.FnExactBitSigns", spec := "fnExactBitSigns", unfollowed := true, recurses := true, apart := false }
def FnExactBitSignsSaid : Prop := fnExactBitSignsRow.holds Try.pinned (OpenSpec.ofChange fnExactBitSignsSpec)

/-- ITS FALSE NEIGHBOUR: 'it returns false'. Refute it at one input. -/
def fnExactBitSignsWrong : ChangeSpec := { name := "fnExactBitSigns", fn := fun _ => fun
  | [d1, d2] => { results := [.lit (.bool false)], args := [d1, d2] }
  | _ => none }
def FnExactBitSignsWrongFalsely : Prop := fnExactBitSignsRow.holds Try.pinned (OpenSpec.ofChange fnExactBitSignsWrong)

/-- 'laws.FnExactInfluencesOf': WHATEVER THE INPUT: true; the input reads as it did. -/
def fnExactInfluencesOfSpec : ChangeSpec := { name := "fnExactInfluencesOf", fn := fun _ => fun
  | [d1, d2] => { results := [.lit (.bool true)], args := [d1, d2] }
  | _ => none }
def fnExactInfluencesOfRow : OpenClaim := { program := "ytchlkcmgonbcjaa", sum := "8b363de11c35592fa3e7dfa8fa4e59e84919036d2dece486d7921f10fdb8a862", func := "loop.example/g01135/laws.FnExactInfluencesOf", spec := "fnExactInfluencesOf", unfollowed := true, recurses := true, apart := false }
def FnExactInfluencesOfSaid : Prop := fnExactInfluencesOfRow.holds Try.pinned (OpenSpec.ofChange fnExactInfluencesOfSpec)

/-- ITS FALSE NEIGHBOUR: 'it returns false'. Refute it at one input. -/
def fnExactInfluencesOfWrong : ChangeSpec := { name := "fnExactInfluencesOf", fn := fun _ => fun
  | [d1, d2] => { results := [.lit (.bool false)], args := [d1, d2] }
  | _ => none }
def FnExactInfluencesOfWrongFalsely : Prop := fnExactInfluencesOfRow.holds Try.pinned (OpenSpec.ofChange fnExactInfluencesOfWrong)

/-- 'laws.FnExactDualTable': WHATEVER THE INPUT: true; the input reads as it did. -/
def fnExactDualTableSpec : ChangeSpec := { name := "fnExactDualTable", fn := fun _ => fun
  | [d1, d2] => { results := [.lit (.bool true)], args := [d1, d2] }
  | _ => none }
def fnExactDualTableRow : OpenClaim := { program := "ytchlkcmgonbcjaa", sum := "8b363de11c35592fa3e7dfa8fa4e59e84919036d2dece486d7921f10fdb8a862", func := "loop.example/g01135/laws.FnExactDualTable", spec := "fnExactDualTable", unfollowed := true, recurses := true, apart := false }
def FnExactDualTableSaid : Prop := fnExactDualTableRow.holds Try.pinned (OpenSpec.ofChange fnExactDualTableSpec)

/-- ITS FALSE NEIGHBOUR: 'it returns false'. Refute it at one input. -/
def fnExactDualTableWrong : ChangeSpec := { name := "fnExactDualTable", fn := fun _ => fun
  | [d1, d2] => { results := [.lit (.bool false)], args := [d1, d2] }
  | _ => none }
def FnExactDualTableWrongFalsely : Prop := fnExactDualTableRow.holds Try.pinned (OpenSpec.ofChange fnExactDualTableWrong)

/-- 'laws.FnExactFlipBits': WHATEVER THE INPUT: true; the input reads as it did. -/
def fnExactFlipBitsSpec : ChangeSpec := { name := "fnExactFlipBits", fn := fun _ => fun
  | [d1, d2, d3] => { results := [.lit (.bool true)], args := [d1, d2, d3] }
  | _ => none }
def fnExactFlipBitsRow : OpenClaim := { program := "ytchlkcmgonbcjaa", sum := "8b363de11c35592fa3e7dfa8fa4e59e84919036d2dece486d7921f10fdb8a862", func := "loop.example/g01135/laws.FnExactFlipBits", spec := "fnExactFlipBits", unfollowed := true, recurses := true, apart := false }
def FnExactFlipBitsSaid : Prop := fnExactFlipBitsRow.holds Try.pinned (OpenSpec.ofChange fnExactFlipBitsSpec)

/-- ITS FALSE NEIGHBOUR: 'it returns false'. Refute it at one input. -/
def fnExactFlipBitsWrong : ChangeSpec := { name := "fnExactFlipBits", fn := fun _ => fun
  | [d1, d2, d3] => { results := [.lit (.bool false)], args := [d1, d2, d3] }
  | _ => none }
def FnExactFlipBitsWrongFalsely : Prop := fnExactFlipBitsRow.holds Try.pinned (OpenSpec.ofChange fnExactFlipBitsWrong)

/-- 'laws.FnExactPermuteBits': WHATEVER THE INPUT: true; the input reads as it did. -/
def fnExactPermuteBitsSpec : ChangeSpec := { name := "fnExactPermuteBits", fn := fun _ => fun
  | [d1, d2, d3] => { results := [.lit (.bool true)], args := [d1, d2, d3] }
  | _ => none }
def fnExactPermuteBitsRow : OpenClaim := { program := "ytchlkcmgonbcjaa", sum := "8b363de11c35592fa3e7dfa8fa4e59e84919036d2dece486d7921f10fdb8a862", func := "loop.example/g01135/laws.FnExactPermuteBits", spec := "fnExactPermuteBits", unfollowed := true, recurses := true, apart := false }
def FnExactPermuteBitsSaid : Prop := fnExactPermuteBitsRow.holds Try.pinned (OpenSpec.ofChange fnExactPermuteBitsSpec)

/-- ITS FALSE NEIGHBOUR: 'it returns false'. Refute it at one input. -/
def fnExactPermuteBitsWrong : ChangeSpec := { name := "fnExactPermuteBits", fn := fun _ => fun
  | [d1, d2, d3] => { results := [.lit (.bool false)], args := [d1, d2, d3] }
  | _ => none }
def FnExactPermuteBitsWrongFalsely : Prop := fnExactPermuteBitsRow.holds Try.pinned (OpenSpec.ofChange fnExactPermuteBitsWrong)

/-- 'laws.FnExactRestrictBit': WHATEVER THE INPUT: true; the input reads as it did. -/
def fnExactRestrictBitSpec : ChangeSpec := { name := "fnExactRestrictBit", fn := fun _ => fun
  | [d1, d2, d3, d4] => { results := [.lit (.bool true)], args := [d1, d2, d3, d4] }
  | _ => none }
def fnExactRestrictBitRow : OpenClaim := { program := "ytchlkcmgonbcjaa", sum := "8b363de11c35592fa3e7dfa8fa4e59e84919036d2dece486d7921f10fdb8a862", func := "loop.example/g01135/laws.FnExactRestrictBit", spec := "fnExactRestrictBit", unfollowed := true, recurses := true, apart := false }
def FnExactRestrictBitSaid : Prop := fnExactRestrictBitRow.holds Try.pinned (OpenSpec.ofChange fnExactRestrictBitSpec)

/-- ITS FALSE NEIGHBOUR: 'it returns false'. Refute it at one input. -/
def fnExactRestrictBitWrong : ChangeSpec := { name := "fnExactRestrictBit", fn := fun _ => fun
  | [d1, d2, d3, d4] => { results := [.lit (.bool false)], args := [d1, d2, d3, d4] }
  | _ => none }
def FnExactRestrictBitWrongFalsely : Prop := fnExactRestrictBitRow.holds Try.pinned (OpenSpec.ofChange fnExactRestrictBitWrong)

/-- 'laws.FnExactJoinTables': WHATEVER THE INPUT: true; the input reads as it did. -/
def fnExactJoinTablesSpec : ChangeSpec := { name := "fnExactJoinTables", fn := fun _ => fun
  | [d1, d2, d3] => { results := [.lit (.bool true)], args := [d1, d2, d3] }
  | _ => none }
def fnExactJoinTablesRow : OpenClaim := { program := "ytchlkcmgonbcjaa", sum := "8b363de11c35592fa3e7dfa8fa4e59e84919036d2dece486d7921f10fdb8a862", func := "loop.example/g01135/laws.FnExactJoinTables", spec := "fnExactJoinTables", unfollowed := true, recurses := true, apart := false }
def FnExactJoinTablesSaid : Prop := fnExactJoinTablesRow.holds Try.pinned (OpenSpec.ofChange fnExactJoinTablesSpec)

/-- ITS FALSE NEIGHBOUR: 'it returns false'. Refute it at one input. -/
def fnExactJoinTablesWrong : ChangeSpec := { name := "fnExactJoinTables", fn := fun _ => fun
  | [d1, d2, d3] => { results := [.lit (.bool false)], args := [d1, d2, d3] }
  | _ => none }
def FnExactJoinTablesWrongFalsely : Prop := fnExactJoinTablesRow.holds Try.pinned (OpenSpec.ofChange fnExactJoinTablesWrong)

/-- 'laws.FnExactFindTrade': WHATEVER THE INPUT: true; the input reads as it did. -/
def fnExactFindTradeSpec : ChangeSpec := { name := "fnExactFindTrade", fn := fun _ => fun
  | [d1, d2] => { results := [.lit (.bool true)], args := [d1, d2] }
  | _ => none }
def fnExactFindTradeRow : OpenClaim := { program := "ytchlkcmgonbcjaa", sum := "8b363de11c35592fa3e7dfa8fa4e59e84919036d2dece486d7921f10fdb8a862", func := "loop.example/g01135/laws.FnExactFindTrade", spec := "fnExactFindTrade", unfollowed := true, recurses := true, apart := false }
def FnExactFindTradeSaid : Prop := fnExactFindTradeRow.holds Try.pinned (OpenSpec.ofChange fnExactFindTradeSpec)

/-- ITS FALSE NEIGHBOUR: 'it returns false'. Refute it at one input. -/
def fnExactFindTradeWrong : ChangeSpec := { name := "fnExactFindTrade", fn := fun _ => fun
  | [d1, d2] => { results := [.lit (.bool false)], args := [d1, d2] }
  | _ => none }
def FnExactFindTradeWrongFalsely : Prop := fnExactFindTradeRow.holds Try.pinned (OpenSpec.ofChange fnExactFindTradeWrong)

/-- 'laws.FnExactIsThreshold': WHATEVER THE INPUT: true; the input reads as it did. -/
def fnExactIsThresholdSpec : ChangeSpec := { name := "fnExactIsThreshold", fn := fun _ => fun
  | [d1, d2] => { results := [.lit (.bool true)], args := [d1, d2] }
  | _ => none }
def fnExactIsThresholdRow : OpenClaim := { program := "ytchlkcmgonbcjaa", sum := "8b363de11c35592fa3e7dfa8fa4e59e84919036d2dece486d7921f10fdb8a862", func := "loop.example/g01135/laws.FnExactIsThreshold", spec := "fnExactIsThreshold", unfollowed := true, recurses := true, apart := false }
def FnExactIsThresholdSaid : Prop := fnExactIsThresholdRow.holds Try.pinned (OpenSpec.ofChange fnExactIsThresholdSpec)

/-- ITS FALSE NEIGHBOUR: 'it returns false'. Refute it at one input. -/
def fnExactIsThresholdWrong : ChangeSpec := { name := "fnExactIsThreshold", fn := fun _ => fun
  | [d1, d2] => { results := [.lit (.bool false)], args := [d1, d2] }
  | _ => none }
def FnExactIsThresholdWrongFalsely : Prop := fnExactIsThresholdRow.holds Try.pinned (OpenSpec.ofChange fnExactIsThresholdWrong)

/- THE SECOND FORM. 'bulk': how many values and letters a reading holds, each counted each time it is reached (what is shared counts as often as it is met; a slice's spare places count too). A statement '..UptoSaid' is the law's where the arguments, and the package variables that the reading takes, are together of bulk at most 1048576: NARROWER than '..Said'. Prove '..Said' where nothing that the law and all that it calls make is longer than what came in: it says more and counts as full. Else prove '..UptoSaid'. A law counts once. -/
mutual
def uptoBulk {H : Type} : DataW H → Nat
  | .lit (.string bytes) => bytes.length + 1
  | .lit _ => 1
  | .nil => 1
  | .ptr d => uptoBulk d + 1
  | .slice elems spare => uptoBulkAll elems + uptoBulkAll spare + 1
  | .agg parts => uptoBulkAll parts + 1
  | .iface _ d => uptoBulk d + 1
  | .map entries => uptoBulkEntries entries + 1
  | .held _ => 1
def uptoBulkAll {H : Type} : List (DataW H) → Nat
  | [] => 0
  | d :: r => uptoBulk d + uptoBulkAll r
def uptoBulkEntries {H : Type} : List (Lit × DataW H) → Nat
  | [] => 0
  | x :: r => uptoBulkEntry x + uptoBulkEntries r
def uptoBulkEntry {H : Type} : Lit × DataW H → Nat
  | (.string bytes, d) => bytes.length + uptoBulk d + 1
  | (_, d) => uptoBulk d + 1
 end
def uptoSmall : (H : Type) → List (DataW H) → Bool := fun _ ds => decide (uptoBulkAll ds ≤ 1048576)
def OpenSpec.upto (s : _root_.Go.ChangeSpec) : _root_.Go.OpenSpec := { _root_.Go.OpenSpec.ofChange s with cond := some uptoSmall }

/-- 'laws.FnExactIsTable', WHERE WHAT IT READS IS OF BULK AT MOST 1048576: true; the input reads as it did. -/
def fnExactIsTableUptoRow : OpenClaim := { program := "ytchlkcmgonbcjaa", sum := "8b363de11c35592fa3e7dfa8fa4e59e84919036d2dece486d7921f10fdb8a862", func := "loop.example/g01135/laws.FnExactIsTable", spec := "fnExactIsTable", unfollowed := true, recurses := true, apart := false, narrowed := true }
def FnExactIsTableUptoSaid : Prop := fnExactIsTableUptoRow.holds Try.pinned (OpenSpec.upto fnExactIsTableSpec)

/-- 'laws.FnExactIsTrade', WHERE WHAT IT READS IS OF BULK AT MOST 1048576: true; the input reads as it did. -/
def fnExactIsTradeUptoRow : OpenClaim := { program := "ytchlkcmgonbcjaa", sum := "8b363de11c35592fa3e7dfa8fa4e59e84919036d2dece486d7921f10fdb8a862", func := "loop.example/g01135/laws.FnExactIsTrade", spec := "fnExactIsTrade", unfollowed := true, recurses := true, apart := false, narrowed := true }
def FnExactIsTradeUptoSaid : Prop := fnExactIsTradeUptoRow.holds Try.pinned (OpenSpec.upto fnExactIsTradeSpec)

/-- 'laws.FnExactChowNumbers', WHERE WHAT IT READS IS OF BULK AT MOST 1048576: true; the input reads as it did. -/
def fnExactChowNumbersUptoRow : OpenClaim := { program := "ytchlkcmgonbcjaa", sum := "8b363de11c35592fa3e7dfa8fa4e59e84919036d2dece486d7921f10fdb8a862", func := "loop.example/g01135/laws.FnExactChowNumbers", spec := "fnExactChowNumbers", unfollowed := true, recurses := true, apart := false, narrowed := true }
def FnExactChowNumbersUptoSaid : Prop := fnExactChowNumbersUptoRow.holds Try.pinned (OpenSpec.upto fnExactChowNumbersSpec)

/-- 'laws.FnExactBitSigns', WHERE WHAT IT READS IS OF BULK AT MOST 1048576: true; the input reads as it did. -/
def fnExactBitSignsUptoRow : OpenClaim := { program := "ytchlkcmgonbcjaa", sum := "8b363de11c35592fa3e7dfa8fa4e59e84919036d2dece486d7921f10fdb8a862", func := "loop.example/g01135/laws.FnExactBitSigns", spec := "fnExactBitSigns", unfollowed := true, recurses := true, apart := false, narrowed := true }
def FnExactBitSignsUptoSaid : Prop := fnExactBitSignsUptoRow.holds Try.pinned (OpenSpec.upto fnExactBitSignsSpec)

/-- 'laws.FnExactInfluencesOf', WHERE WHAT IT READS IS OF BULK AT MOST 1048576: true; the input reads as it did. -/
def fnExactInfluencesOfUptoRow : OpenClaim := { program := "ytchlkcmgonbcjaa", sum := "8b363de11c35592fa3e7dfa8fa4e59e84919036d2dece486d7921f10fdb8a862", func := "loop.example/g01135/laws.FnExactInfluencesOf", spec := "fnExactInfluencesOf", unfollowed := true, recurses := true, apart := false, narrowed := true }
def FnExactInfluencesOfUptoSaid : Prop := fnExactInfluencesOfUptoRow.holds Try.pinned (OpenSpec.upto fnExactInfluencesOfSpec)

/-- 'laws.FnExactDualTable', WHERE WHAT IT READS IS OF BULK AT MOST 1048576: true; the input reads as it did. -/
def fnExactDualTableUptoRow : OpenClaim := { program := "ytchlkcmgonbcjaa", sum := "8b363de11c35592fa3e7dfa8fa4e59e84919036d2dece486d7921f10fdb8a862", func := "loop.example/g01135/laws.FnExactDualTable", spec := "fnExactDualTable", unfollowed := true, recurses := true, apart := false, narrowed := true }
def FnExactDualTableUptoSaid : Prop := fnExactDualTableUptoRow.holds Try.pinned (OpenSpec.upto fnExactDualTableSpec)

/-- 'laws.FnExactFlipBits', WHERE WHAT IT READS IS OF BULK AT MOST 1048576: true; the input reads as it did. -/
def fnExactFlipBitsUptoRow : OpenClaim := { program := "ytchlkcmgonbcjaa", sum := "8b363de11c35592fa3e7dfa8fa4e59e84919036d2dece486d7921f10fdb8a862", func := "loop.example/g01135/laws.FnExactFlipBits", spec := "fnExactFlipBits", unfollowed := true, recurses := true, apart := false, narrowed := true }
def FnExactFlipBitsUptoSaid : Prop := fnExactFlipBitsUptoRow.holds Try.pinned (OpenSpec.upto fnExactFlipBitsSpec)

/-- 'laws.FnExactPermuteBits', WHERE WHAT IT READS IS OF BULK AT MOST 1048576: true; the input reads as it did. -/
def fnExactPermuteBitsUptoRow : OpenClaim := { program := "ytchlkcmgonbcjaa", sum := "8b363de11c35592fa3e7dfa8fa4e59e84919036d2dece486d7921f10fdb8a862", func := "loop.example/g01135/laws.FnExactPermuteBits", spec := "fnExactPermuteBits", unfollowed := true, recurses := true, apart := false, narrowed := true }
def FnExactPermuteBitsUptoSaid : Prop := fnExactPermuteBitsUptoRow.holds Try.pinned (OpenSpec.upto fnExactPermuteBitsSpec)

/-- 'laws.FnExactRestrictBit', WHERE WHAT IT READS IS OF BULK AT MOST 1048576: true; the input reads as it did. -/
def fnExactRestrictBitUptoRow : OpenClaim := { program := "ytchlkcmgonbcjaa", sum := "8b363de11c35592fa3e7dfa8fa4e59e84919036d2dece486d7921f10fdb8a862", func := "loop.example/g01135/laws.FnExactRestrictBit", spec := "fnExactRestrictBit", unfollowed := true, recurses := true, apart := false, narrowed := true }
def FnExactRestrictBitUptoSaid : Prop := fnExactRestrictBitUptoRow.holds Try.pinned (OpenSpec.upto fnExactRestrictBitSpec)

/-- 'laws.FnExactJoinTables', WHERE WHAT IT READS IS OF BULK AT MOST 1048576: true; the input reads as it did. -/
def fnExactJoinTablesUptoRow : OpenClaim := { program := "ytchlkcmgonbcjaa", sum := "8b363de11c35592fa3e7dfa8fa4e59e84919036d2dece486d7921f10fdb8a862", func := "loop.example/g01135/laws.FnExactJoinTables", spec := "fnExactJoinTables", unfollowed := true, recurses := true, apart := false, narrowed := true }
def FnExactJoinTablesUptoSaid : Prop := fnExactJoinTablesUptoRow.holds Try.pinned (OpenSpec.upto fnExactJoinTablesSpec)

/-- 'laws.FnExactFindTrade', WHERE WHAT IT READS IS OF BULK AT MOST 1048576: true; the input reads as it did. -/
def fnExactFindTradeUptoRow : OpenClaim := { program := "ytchlkcmgonbcjaa", sum := "8b363de11c35592fa3e7dfa8fa4e59e84919036d2dece486d7921f10fdb8a862", func := "loop.example/g01135/laws.FnExactFindTrade", spec := "fnExactFindTrade", unfollowed := true, recurses := true, apart := false, narrowed := true }
def FnExactFindTradeUptoSaid : Prop := fnExactFindTradeUptoRow.holds Try.pinned (OpenSpec.upto fnExactFindTradeSpec)

/-- 'laws.FnExactIsThreshold', WHERE WHAT IT READS IS OF BULK AT MOST 1048576: true; the input reads as it did. -/
def fnExactIsThresholdUptoRow : OpenClaim := { program := "ytchlkcmgonbcjaa", sum := "8b363de11c35592fa3e7dfa8fa4e59e84919036d2dece486d7921f10fdb8a862", func := "loop.example/g01135/laws.FnExactIsThreshold", spec := "fnExactIsThreshold", unfollowed := true, recurses := true, apart := false, narrowed := true }
def FnExactIsThresholdUptoSaid : Prop := fnExactIsThresholdUptoRow.holds Try.pinned (OpenSpec.upto fnExactIsThresholdSpec)

end Rows
end Go.Proofs.Ytchlkcmgonbcjaa
