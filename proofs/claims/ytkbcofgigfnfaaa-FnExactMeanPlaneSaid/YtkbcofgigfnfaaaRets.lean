/- How calls with three results end: plain definitions, no condition. -/
import Derived.Test.YtkbcofgigfnfaaaOwnG
namespace Go.Proofs.Ytkbcofgigfnfaaa.own
open Go.RowKit

def RetPBB (zs : List Int) (b : Int) (r ok : Bool) (w : World) (e : Ending) (w' : World) : Prop := ∃ v, e = .returned (.tuple #[.agg #[v, .int .i64 b], .bool r, .bool ok]) ∧ OwnI w.heap.size w'.heap.size w' v zs ∧ Below w.heap.size w w'
def RetIBB (zs : List Int) (r ok : Bool) (w : World) (e : Ending) (w' : World) : Prop := ∃ v, e = .returned (.tuple #[v, .bool r, .bool ok]) ∧ OwnI w.heap.size w'.heap.size w' v zs ∧ Below w.heap.size w w'
def RetINB (zs : List Int) (n : Int) (ok : Bool) (w : World) (e : Ending) (w' : World) : Prop := ∃ v, e = .returned (.tuple #[v, .int .i64 n, .bool ok]) ∧ OwnI w.heap.size w'.heap.size w' v zs ∧ Below w.heap.size w w'
def RetPIB (zs : List Int) (b : Int) (ys : List Int) (ok : Bool) (w : World) (e : Ending) (w' : World) : Prop := ∃ v u, e = .returned (.tuple #[.agg #[v, .int .i64 b], u, .bool ok]) ∧ OwnI w.heap.size w'.heap.size w' v zs ∧ OwnI w.heap.size w'.heap.size w' u ys ∧ (∀ g, v.ownBlock = some g → u.ownBlock ≠ some g) ∧ Below w.heap.size w w'
def RetNNNB (a b c : Int) (ok : Bool) (w : World) (e : Ending) (w' : World) : Prop := e = .returned (.tuple #[.int .i64 a, .int .i64 b, .int .i64 c, .bool ok]) ∧ Below w.heap.size w w'
def RetGB (rows : List (List Int)) (ok : Bool) (w : World) (e : Ending) (w' : World) : Prop := ∃ v, e = .returned (.tuple #[v, .bool ok]) ∧ OwnG w.heap.size w'.heap.size w' v rows ∧ Below w.heap.size w w'
end Go.Proofs.Ytkbcofgigfnfaaa.own
