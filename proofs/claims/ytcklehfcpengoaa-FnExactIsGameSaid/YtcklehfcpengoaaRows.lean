/-
  No cell of these rows narrows 'for every input' (looked for: loops, veiled, ifaces, maps, wideKeys, modest, calm, conditions, laid).
  DERIVED. THE GIVEN ROWS OF THIS SEAT. 12 by the template 'for every input the law returns true; each argument reads behind the call as it read before'; 0 by the template 'total and deterministic' (their statements: YtcklehfcpengoaaTotals.lean).
  GIVEN WITH THE SEED: the statements are not yours to turn. If you find one false, say at which input.
  Laid BY PROGRAM, IN A SANDBOX (cutbox-rows.mjs): the forced cells as the released guide's own fill.sh prints them over the translation afcde5319b762a4f… (all of the seat's roots in one cut). By AI agents, Wed Nov 11 2026. No macro, syntax, notation, axiom, sorry.
-/
import Derived.Test.YtcklehfcpengoaaChecked
import GoSem.Claim
import GoSem.ClaimJoined
import GoSem.ClaimMapViews
import Derived.JoinedTies
import Derived.KernelRfl
namespace Go.Proofs.Ytcklehfcpengoaa
/- THE CELL 'sum', in the pinned program and in every row, IS THE sha256 OF THE DUMP (.gsa) THAT YtcklehfcpengoaaProg.lean LOADS. Nothing in Lean hashes anything: it is a label: what it is worth is what the hold of that sum in a sandbox is worth. -/
noncomputable def Try.pinned : Pinned := { name := "ytcklehfcpengoaa", sum := "afcde5319b762a4f2c196c11e9272d5f7e6cdb38dc0f4a7d54dc3616779a1580", checked := Try.checked }
namespace Rows
def none {H : Type} : Left H := { results := [], args := [] }

/-- 'laws.FnExactIsVote': WHATEVER THE INPUT: true; the input reads as it did. -/
def fnExactIsVoteSpec : ChangeSpec := { name := "fnExactIsVote", fn := fun _ => fun
  | [d] => { results := [.lit (.bool true)], args := [d] }
  | _ => none }
def fnExactIsVoteRow : OpenClaim := { program := "ytcklehfcpengoaa", sum := "afcde5319b762a4f2c196c11e9272d5f7e6cdb38dc0f4a7d54dc3616779a1580", func := "loop.example/g01135/laws.FnExactIsVote", spec := "fnExactIsVote", unfollowed := true, recurses := true, apart := false }
def FnExactIsVoteSaid : Prop := fnExactIsVoteRow.holds Try.pinned (OpenSpec.ofChange fnExactIsVoteSpec)

/-- ITS FALSE NEIGHBOUR: 'it returns false'. Refute it at one input. -/
def fnExactIsVoteWrong : ChangeSpec := { name := "fnExactIsVote", fn := fun _ => fun
  | [d] => { results := [.lit (.bool false)], args := [d] }
  | _ => none }
def FnExactIsVoteWrongFalsely : Prop := fnExactIsVoteRow.holds Try.pinned (OpenSpec.ofChange fnExactIsVoteWrong)

/-- 'laws.FnExactWinsWith': WHATEVER THE INPUT: true; the input reads as it did. -/
def fnExactWinsWithSpec : ChangeSpec := { name := "fnExactWinsWith", fn := fun _ => fun
  | [d1, d2] => { results := [.lit (.bool true)], args := [d1, d2] }
  | _ => none }
def fnExactWinsWithRow : OpenClaim := { program := "ytcklehfcpengoaa", sum := "afcde5319b762a4f2c196c11e9272d5f7e6cdb38dc0f4a7d54dc3616779a1580", func := "loop.example/g01135/laws.FnExactWinsWith", spec := "fnExactWinsWith", unfollowed := true, recurses := true, apart := false }
def FnExactWinsWithSaid : Prop := fnExactWinsWithRow.holds Try.pinned (OpenSpec.ofChange fnExactWinsWithSpec)

/-- ITS FALSE NEIGHBOUR: 'it returns false'. Refute it at one input. -/
def fnExactWinsWithWrong : ChangeSpec := { name := "fnExactWinsWith", fn := fun _ => fun
  | [d1, d2] => { results := [.lit (.bool false)], args := [d1, d2] }
  | _ => none }
def FnExactWinsWithWrongFalsely : Prop := fnExactWinsWithRow.holds Try.pinned (OpenSpec.ofChange fnExactWinsWithWrong)

/-- 'laws.FnExactPivotalVoter': WHATEVER THE INPUT: true; the input reads as it did. -/
def fnExactPivotalVoterSpec : ChangeSpec := { name := "fnExactPivotalVoter", fn := fun _ => fun
  | [d1, d2] => { results := [.lit (.bool true)], args := [d1, d2] }
  | _ => none }
def fnExactPivotalVoterRow : OpenClaim := { program := "ytcklehfcpengoaa", sum := "afcde5319b762a4f2c196c11e9272d5f7e6cdb38dc0f4a7d54dc3616779a1580", func := "loop.example/g01135/laws.FnExactPivotalVoter", spec := "fnExactPivotalVoter", unfollowed := true, recurses := true, apart := false }
def FnExactPivotalVoterSaid : Prop := fnExactPivotalVoterRow.holds Try.pinned (OpenSpec.ofChange fnExactPivotalVoterSpec)

/-- ITS FALSE NEIGHBOUR: 'it returns false'. Refute it at one input. -/
def fnExactPivotalVoterWrong : ChangeSpec := { name := "fnExactPivotalVoter", fn := fun _ => fun
  | [d1, d2] => { results := [.lit (.bool false)], args := [d1, d2] }
  | _ => none }
def FnExactPivotalVoterWrongFalsely : Prop := fnExactPivotalVoterRow.holds Try.pinned (OpenSpec.ofChange fnExactPivotalVoterWrong)

/-- 'laws.FnExactDualVote': WHATEVER THE INPUT: true; the input reads as it did. -/
def fnExactDualVoteSpec : ChangeSpec := { name := "fnExactDualVote", fn := fun _ => fun
  | [d] => { results := [.lit (.bool true)], args := [d] }
  | _ => none }
def fnExactDualVoteRow : OpenClaim := { program := "ytcklehfcpengoaa", sum := "afcde5319b762a4f2c196c11e9272d5f7e6cdb38dc0f4a7d54dc3616779a1580", func := "loop.example/g01135/laws.FnExactDualVote", spec := "fnExactDualVote", unfollowed := true, recurses := true, apart := false }
def FnExactDualVoteSaid : Prop := fnExactDualVoteRow.holds Try.pinned (OpenSpec.ofChange fnExactDualVoteSpec)

/-- ITS FALSE NEIGHBOUR: 'it returns false'. Refute it at one input. -/
def fnExactDualVoteWrong : ChangeSpec := { name := "fnExactDualVote", fn := fun _ => fun
  | [d] => { results := [.lit (.bool false)], args := [d] }
  | _ => none }
def FnExactDualVoteWrongFalsely : Prop := fnExactDualVoteRow.holds Try.pinned (OpenSpec.ofChange fnExactDualVoteWrong)

/-- 'laws.FnExactMergeVoters': WHATEVER THE INPUT: true; the input reads as it did. -/
def fnExactMergeVotersSpec : ChangeSpec := { name := "fnExactMergeVoters", fn := fun _ => fun
  | [d1, d2, d3] => { results := [.lit (.bool true)], args := [d1, d2, d3] }
  | _ => none }
def fnExactMergeVotersRow : OpenClaim := { program := "ytcklehfcpengoaa", sum := "afcde5319b762a4f2c196c11e9272d5f7e6cdb38dc0f4a7d54dc3616779a1580", func := "loop.example/g01135/laws.FnExactMergeVoters", spec := "fnExactMergeVoters", unfollowed := true, recurses := true, apart := false }
def FnExactMergeVotersSaid : Prop := fnExactMergeVotersRow.holds Try.pinned (OpenSpec.ofChange fnExactMergeVotersSpec)

/-- ITS FALSE NEIGHBOUR: 'it returns false'. Refute it at one input. -/
def fnExactMergeVotersWrong : ChangeSpec := { name := "fnExactMergeVoters", fn := fun _ => fun
  | [d1, d2, d3] => { results := [.lit (.bool false)], args := [d1, d2, d3] }
  | _ => none }
def FnExactMergeVotersWrongFalsely : Prop := fnExactMergeVotersRow.holds Try.pinned (OpenSpec.ofChange fnExactMergeVotersWrong)

/-- 'laws.FnExactSplitVoter': WHATEVER THE INPUT: true; the input reads as it did. -/
def fnExactSplitVoterSpec : ChangeSpec := { name := "fnExactSplitVoter", fn := fun _ => fun
  | [d1, d2, d3] => { results := [.lit (.bool true)], args := [d1, d2, d3] }
  | _ => none }
def fnExactSplitVoterRow : OpenClaim := { program := "ytcklehfcpengoaa", sum := "afcde5319b762a4f2c196c11e9272d5f7e6cdb38dc0f4a7d54dc3616779a1580", func := "loop.example/g01135/laws.FnExactSplitVoter", spec := "fnExactSplitVoter", unfollowed := true, recurses := true, apart := false }
def FnExactSplitVoterSaid : Prop := fnExactSplitVoterRow.holds Try.pinned (OpenSpec.ofChange fnExactSplitVoterSpec)

/-- ITS FALSE NEIGHBOUR: 'it returns false'. Refute it at one input. -/
def fnExactSplitVoterWrong : ChangeSpec := { name := "fnExactSplitVoter", fn := fun _ => fun
  | [d1, d2, d3] => { results := [.lit (.bool false)], args := [d1, d2, d3] }
  | _ => none }
def FnExactSplitVoterWrongFalsely : Prop := fnExactSplitVoterRow.holds Try.pinned (OpenSpec.ofChange fnExactSplitVoterWrong)

/-- 'laws.FnExactVoteTable': WHATEVER THE INPUT: true; the input reads as it did. -/
def fnExactVoteTableSpec : ChangeSpec := { name := "fnExactVoteTable", fn := fun _ => fun
  | [d] => { results := [.lit (.bool true)], args := [d] }
  | _ => none }
def fnExactVoteTableRow : OpenClaim := { program := "ytcklehfcpengoaa", sum := "afcde5319b762a4f2c196c11e9272d5f7e6cdb38dc0f4a7d54dc3616779a1580", func := "loop.example/g01135/laws.FnExactVoteTable", spec := "fnExactVoteTable", unfollowed := true, recurses := true, apart := false }
def FnExactVoteTableSaid : Prop := fnExactVoteTableRow.holds Try.pinned (OpenSpec.ofChange fnExactVoteTableSpec)

/-- ITS FALSE NEIGHBOUR: 'it returns false'. Refute it at one input. -/
def fnExactVoteTableWrong : ChangeSpec := { name := "fnExactVoteTable", fn := fun _ => fun
  | [d] => { results := [.lit (.bool false)], args := [d] }
  | _ => none }
def FnExactVoteTableWrongFalsely : Prop := fnExactVoteTableRow.holds Try.pinned (OpenSpec.ofChange fnExactVoteTableWrong)

/-- 'laws.FnExactIsGame': WHATEVER THE INPUT: true; the input reads as it did. -/
def fnExactIsGameSpec : ChangeSpec := { name := "fnExactIsGame", fn := fun _ => fun
  | [d1, d2] => { results := [.lit (.bool true)], args := [d1, d2] }
  | _ => none }
def fnExactIsGameRow : OpenClaim := { program := "ytcklehfcpengoaa", sum := "afcde5319b762a4f2c196c11e9272d5f7e6cdb38dc0f4a7d54dc3616779a1580", func := "loop.example/g01135/laws.FnExactIsGame", spec := "fnExactIsGame", unfollowed := true, recurses := true, apart := false }
def FnExactIsGameSaid : Prop := fnExactIsGameRow.holds Try.pinned (OpenSpec.ofChange fnExactIsGameSpec)

/-- ITS FALSE NEIGHBOUR: 'it returns false'. Refute it at one input. -/
def fnExactIsGameWrong : ChangeSpec := { name := "fnExactIsGame", fn := fun _ => fun
  | [d1, d2] => { results := [.lit (.bool false)], args := [d1, d2] }
  | _ => none }
def FnExactIsGameWrongFalsely : Prop := fnExactIsGameRow.holds Try.pinned (OpenSpec.ofChange fnExactIsGameWrong)

/-- 'laws.FnExactBothTable': WHATEVER THE INPUT: true; the input reads as it did. -/
def fnExactBothTableSpec : ChangeSpec := { name := "fnExactBothTable", fn := fun _ => fun
  | [d1, d2] => { results := [.lit (.bool true)], args := [d1, d2] }
  | _ => none }
def fnExactBothTableRow : OpenClaim := { program := "ytcklehfcpengoaa", sum := "afcde5319b762a4f2c196c11e9272d5f7e6cdb38dc0f4a7d54dc3616779a1580", func := "loop.example/g01135/laws.FnExactBothTable", spec := "fnExactBothTable", unfollowed := true, recurses := true, apart := false }
def FnExactBothTableSaid : Prop := fnExactBothTableRow.holds Try.pinned (OpenSpec.ofChange fnExactBothTableSpec)

/-- ITS FALSE NEIGHBOUR: 'it returns false'. Refute it at one input. -/
def fnExactBothTableWrong : ChangeSpec := { name := "fnExactBothTable", fn := fun _ => fun
  | [d1, d2] => { results := [.lit (.bool false)], args := [d1, d2] }
  | _ => none }
def FnExactBothTableWrongFalsely : Prop := fnExactBothTableRow.holds Try.pinned (OpenSpec.ofChange fnExactBothTableWrong)

/-- 'laws.FnExactIsWeighted': WHATEVER THE INPUT: true; the input reads as it did. -/
def fnExactIsWeightedSpec : ChangeSpec := { name := "fnExactIsWeighted", fn := fun _ => fun
  | [d1, d2] => { results := [.lit (.bool true)], args := [d1, d2] }
  | _ => none }
def fnExactIsWeightedRow : OpenClaim := { program := "ytcklehfcpengoaa", sum := "afcde5319b762a4f2c196c11e9272d5f7e6cdb38dc0f4a7d54dc3616779a1580", func := "loop.example/g01135/laws.FnExactIsWeighted", spec := "fnExactIsWeighted", unfollowed := true, recurses := true, apart := false }
def FnExactIsWeightedSaid : Prop := fnExactIsWeightedRow.holds Try.pinned (OpenSpec.ofChange fnExactIsWeightedSpec)

/-- ITS FALSE NEIGHBOUR: 'it returns false'. Refute it at one input. -/
def fnExactIsWeightedWrong : ChangeSpec := { name := "fnExactIsWeighted", fn := fun _ => fun
  | [d1, d2] => { results := [.lit (.bool false)], args := [d1, d2] }
  | _ => none }
def FnExactIsWeightedWrongFalsely : Prop := fnExactIsWeightedRow.holds Try.pinned (OpenSpec.ofChange fnExactIsWeightedWrong)

/-- 'laws.FnExactVoteOf': WHATEVER THE INPUT: true; the input reads as it did. -/
def fnExactVoteOfSpec : ChangeSpec := { name := "fnExactVoteOf", fn := fun _ => fun
  | [d1, d2] => { results := [.lit (.bool true)], args := [d1, d2] }
  | _ => none }
def fnExactVoteOfRow : OpenClaim := { program := "ytcklehfcpengoaa", sum := "afcde5319b762a4f2c196c11e9272d5f7e6cdb38dc0f4a7d54dc3616779a1580", func := "loop.example/g01135/laws.FnExactVoteOf", spec := "fnExactVoteOf", unfollowed := true, recurses := true, apart := false }
def FnExactVoteOfSaid : Prop := fnExactVoteOfRow.holds Try.pinned (OpenSpec.ofChange fnExactVoteOfSpec)

/-- ITS FALSE NEIGHBOUR: 'it returns false'. Refute it at one input. -/
def fnExactVoteOfWrong : ChangeSpec := { name := "fnExactVoteOf", fn := fun _ => fun
  | [d1, d2] => { results := [.lit (.bool false)], args := [d1, d2] }
  | _ => none }
def FnExactVoteOfWrongFalsely : Prop := fnExactVoteOfRow.holds Try.pinned (OpenSpec.ofChange fnExactVoteOfWrong)

/-- 'laws.FnExactCountThresholds': WHATEVER THE INPUT: true; the input reads as it did. -/
def fnExactCountThresholdsSpec : ChangeSpec := { name := "fnExactCountThresholds", fn := fun _ => fun
  | [d] => { results := [.lit (.bool true)], args := [d] }
  | _ => none }
def fnExactCountThresholdsRow : OpenClaim := { program := "ytcklehfcpengoaa", sum := "afcde5319b762a4f2c196c11e9272d5f7e6cdb38dc0f4a7d54dc3616779a1580", func := "loop.example/g01135/laws.FnExactCountThresholds", spec := "fnExactCountThresholds", unfollowed := true, recurses := true, apart := false }
def FnExactCountThresholdsSaid : Prop := fnExactCountThresholdsRow.holds Try.pinned (OpenSpec.ofChange fnExactCountThresholdsSpec)

/-- ITS FALSE NEIGHBOUR: 'it returns false'. Refute it at one input. -/
def fnExactCountThresholdsWrong : ChangeSpec := { name := "fnExactCountThresholds", fn := fun _ => fun
  | [d] => { results := [.lit (.bool false)], args := [d] }
  | _ => none }
def FnExactCountThresholdsWrongFalsely : Prop := fnExactCountThresholdsRow.holds Try.pinned (OpenSpec.ofChange fnExactCountThresholdsWrong)

/- THE SECOND FORM. 'bulk': how many values and letters a reading holds, each counted each time it is reached (what is shared counts as often as it is met; a slice's spare places count too). A statement '..UptoSaid' is the law's where the arguments, and the package variables that the reading takes, are together of bulk at most 1048576: NARROWER than '..Said'. Prove '..Said' where nothing that the law and all that it calls make is longer than what came in: it says more and counts as full. Else prove '..UptoSaid'. A law counts once. -/
mutual
def uptoBulk {H : Type} : DataW H → Nat
  | .lit (.string bytes) => bytes.length + 1
  | .lit _ => 1
  | .nil => 1
  | .ptr d => uptoBulk d + 1
  | .slice elems spare => uptoBulkAll elems + uptoBulkAll spare + 1
  | .agg parts => uptoBulkAll parts + 1
  | .iface _ d => uptoBulk d + 1
  | .map entries => uptoBulkEntries entries + 1
  | .held _ => 1
def uptoBulkAll {H : Type} : List (DataW H) → Nat
  | [] => 0
  | d :: r => uptoBulk d + uptoBulkAll r
def uptoBulkEntries {H : Type} : List (Lit × DataW H) → Nat
  | [] => 0
  | x :: r => uptoBulkEntry x + uptoBulkEntries r
def uptoBulkEntry {H : Type} : Lit × DataW H → Nat
  | (.string bytes, d) => bytes.length + uptoBulk d + 1
  | (_, d) => uptoBulk d + 1
 end
def uptoSmall : (H : Type) → List (DataW H) → Bool := fun _ ds => decide (uptoBulkAll ds ≤ 1048576)
def OpenSpec.upto (s : _root_.Go.ChangeSpec) : _root_.Go.OpenSpec := { _root_.Go.OpenSpec.ofChange s with cond := some uptoSmall }

/-- 'laws.FnExactIsVote', WHERE WHAT IT READS IS OF BULK AT MOST 1048576: true; the input reads as it did. -/
def fnExactIsVoteUptoRow : OpenClaim := { program := "ytcklehfcpengoaa", sum := "afcde5319b762a4f2c196c11e9272d5f7e6cdb38dc0f4a7d54dc3616779a1580", func := "loop.example/g01135/laws.FnExactIsVote", spec := "fnExactIsVote", unfollowed := true, recurses := true, apart := false, narrowed := true }
def FnExactIsVoteUptoSaid : Prop := fnExactIsVoteUptoRow.holds Try.pinned (OpenSpec.upto fnExactIsVoteSpec)

/-- 'laws.FnExactWinsWith', WHERE WHAT IT READS IS OF BULK AT MOST 1048576: true; the input reads as it did. -/
def fnExactWinsWithUptoRow : OpenClaim := { program := "ytcklehfcpengoaa", sum := "afcde5319b762a4f2c196c11e9272d5f7e6cdb38dc0f4a7d54dc3616779a1580", func := "loop.example/g01135/laws.FnExactWinsWith", spec := "fnExactWinsWith", unfollowed := true, recurses := true, apart := false, narrowed := true }
def FnExactWinsWithUptoSaid : Prop := fnExactWinsWithUptoRow.holds Try.pinned (OpenSpec.upto fnExactWinsWithSpec)

/-- 'laws.FnExactPivotalVoter', WHERE WHAT IT READS IS OF BULK AT MOST 1048576: true; the input reads as it did. -/
def fnExactPivotalVoterUptoRow : OpenClaim := { program := "ytcklehfcpengoaa", sum := "afcde5319b762a4f2c196c11e9272d5f7e6cdb38dc0f4a7d54dc3616779a1580", func := "loop.example/g01135/laws.FnExactPivotalVoter", spec := "fnExactPivotalVoter", unfollowed := true, recurses := true, apart := false, narrowed := true }
def FnExactPivotalVoterUptoSaid : Prop := fnExactPivotalVoterUptoRow.holds Try.pinned (OpenSpec.upto fnExactPivotalVoterSpec)

/-- 'laws.FnExactDualVote', WHERE WHAT IT READS IS OF BULK AT MOST 1048576: true; the input reads as it did. -/
def fnExactDualVoteUptoRow : OpenClaim := { program := "ytcklehfcpengoaa", sum := "afcde5319b762a4f2c196c11e9272d5f7e6cdb38dc0f4a7d54dc3616779a1580", func := "loop.example/g01135/laws.FnExactDualVote", spec := "fnExactDualVote", unfollowed := true, recurses := true, apart := false, narrowed := true }
def FnExactDualVoteUptoSaid : Prop := fnExactDualVoteUptoRow.holds Try.pinned (OpenSpec.upto fnExactDualVoteSpec)

/-- 'laws.FnExactMergeVoters', WHERE WHAT IT READS IS OF BULK AT MOST 1048576: true; the input reads as it did. -/
def fnExactMergeVotersUptoRow : OpenClaim := { program := "ytcklehfcpengoaa", sum := "afcde5319b762a4f2c196c11e9272d5f7e6cdb38dc0f4a7d54dc3616779a1580", func := "loop.example/g01135/laws.FnExactMergeVoters", spec := "fnExactMergeVoters", unfollowed := true, recurses := true, apart := false, narrowed := true }
def FnExactMergeVotersUptoSaid : Prop := fnExactMergeVotersUptoRow.holds Try.pinned (OpenSpec.upto fnExactMergeVotersSpec)

/-- 'laws.FnExactSplitVoter', WHERE WHAT IT READS IS OF BULK AT MOST 1048576: true; the input reads as it did. -/
def fnExactSplitVoterUptoRow : OpenClaim := { program := "ytcklehfcpengoaa", sum := "afcde5319b762a4f2c196c11e9272d5f7e6cdb38dc0f4a7d54dc3616779a1580", func := "loop.example/g01135/laws.FnExactSplitVoter", spec := "fnExactSplitVoter", unfollowed := true, recurses := true, apart := false, narrowed := true }
def FnExactSplitVoterUptoSaid : Prop := fnExactSplitVoterUptoRow.holds Try.pinned (OpenSpec.upto fnExactSplitVoterSpec)

/-- 'laws.FnExactVoteTable', WHERE WHAT IT READS IS OF BULK AT MOST 1048576: true; the input reads as it did. -/
def fnExactVoteTableUptoRow : OpenClaim := { program := "ytcklehfcpengoaa", sum := "afcde5319b762a4f2c196c11e9272d5f7e6cdb38dc0f4a7d54dc3616779a1580", func := "loop.example/g01135/laws.FnExactVoteTable", spec := "fnExactVoteTable", unfollowed := true, recurses := true, apart := false, narrowed := true }
def FnExactVoteTableUptoSaid : Prop := fnExactVoteTableUptoRow.holds Try.pinned (OpenSpec.upto fnExactVoteTableSpec)

/-- 'laws.FnExactIsGame', WHERE WHAT IT READS IS OF BULK AT MOST 1048576: true; the input reads as it did. -/
def fnExactIsGameUptoRow : OpenClaim := { program := "ytcklehfcpengoaa", sum := "afcde5319b762a4f2c196c11e9272d5f7e6cdb38dc0f4a7d54dc3616779a1580", func := "loop.example/g01135/laws.FnExactIsGame", spec := "fnExactIsGame", unfollowed := true, recurses := true, apart := false, narrowed := true }
def FnExactIsGameUptoSaid : Prop := fnExactIsGameUptoRow.holds Try.pinned (OpenSpec.upto fnExactIsGameSpec)

/-- 'laws.FnExactBothTable', WHERE WHAT IT READS IS OF BULK AT MOST 1048576: true; the input reads as it did. -/
def fnExactBothTableUptoRow : OpenClaim := { program := "ytcklehfcpengoaa", sum := "afcde5319b762a4f2c196c11e9272d5f7e6cdb38dc0f4a7d54dc3616779a1580", func := "loop.example/g01135/laws.FnExactBothTable", spec := "fnExactBothTable", unfollowed := true, recurses := true, apart := false, narrowed := true }
def FnExactBothTableUptoSaid : Prop := fnExactBothTableUptoRow.holds Try.pinned (OpenSpec.upto fnExactBothTableSpec)

/-- 'laws.FnExactIsWeighted', WHERE WHAT IT READS IS OF BULK AT MOST 1048576: true; the input reads as it did. -/
def fnExactIsWeightedUptoRow : OpenClaim := { program := "ytcklehfcpengoaa", sum := "afcde5319b762a4f2c196c11e9272d5f7e6cdb38dc0f4a7d54dc3616779a1580", func := "loop.example/g01135/laws.FnExactIsWeighted", spec := "fnExactIsWeighted", unfollowed := true, recurses := true, apart := false, narrowed := true }
def FnExactIsWeightedUptoSaid : Prop := fnExactIsWeightedUptoRow.holds Try.pinned (OpenSpec.upto fnExactIsWeightedSpec)

/-- 'laws.FnExactVoteOf', WHERE WHAT IT READS IS OF BULK AT MOST 1048576: true; the input reads as it did. -/
def fnExactVoteOfUptoRow : OpenClaim := { program := "ytcklehfcpengoaa", sum := "afcde5319b762a4f2c196c11e9272d5f7e6cdb38dc0f4a7d54dc3616779a1580", func := "loop.example/g01135/laws.FnExactVoteOf", spec := "fnExactVoteOf", unfollowed := true, recurses := true, apart := false, narrowed := true }
def FnExactVoteOfUptoSaid : Prop := fnExactVoteOfUptoRow.holds Try.pinned (OpenSpec.upto fnExactVoteOfSpec)

/-- 'laws.FnExactCountThresholds', WHERE WHAT IT READS IS OF BULK AT MOST 1048576: true; the input reads as it did. -/
def fnExactCountThresholdsUptoRow : OpenClaim := { program := "ytcklehfcpengoaa", sum := "afcde5319b762a4f2c196c11e9272d5f7e6cdb38dc0f4a7d54dc3616779a1580", func := "loop.example/g01135/laws.FnExactCountThresholds", spec := "fnExactCountThresholds", unfollowed := true, recurses := true, apart := false, narrowed := true }
def FnExactCountThresholdsUptoSaid : Prop := fnExactCountThresholdsUptoRow.holds Try.pinned (OpenSpec.upto fnExactCountThresholdsSpec)

end Rows
end Go.Proofs.Ytcklehfcpengoaa
