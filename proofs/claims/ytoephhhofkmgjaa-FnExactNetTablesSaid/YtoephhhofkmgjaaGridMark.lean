/- Marking a slice of slices that a call has made: from the walk of markIntSS, no condition. -/
import Derived.Test.YtoephhhofkmgjaaGridFns
namespace Go.Proofs.Ytoephhhofkmgjaa.gridmark
open Go.RowKit own

theorem mark_any (lo hi : Nat) (a : Option Addr) (c : Nat) (rows : List (List Int)) (K : Nat) (w : World) (h : OwnG lo hi w (.slice a rows.length c) rows) (h2 : K + grid.tot rows ≤ 4611686018427387904) (hn : rows.length ≤ 9223372036854775807) :
    Calls Try.prog 30 #[.slice a rows.length c, .int .i64 K] w fun e w' => e = .returned (.int .i64 (K + grid.tot rows : Nat)) ∧ OwnG lo hi w' (.slice a rows.length c) (markRows K rows) ∧ Only lo hi w w' := by
  obtain ⟨cs, k1⟩ := h
  refine (gridfns.mark_any lo hi _ _ rows cs K _ k1 h2 hn).mono ?_
  rintro e w1 ⟨rfl, ho1, ht1⟩
  exact ⟨rfl, ⟨cs, ho1⟩, ht1.only fun k hk => ⟨(k1.blk hk).1, (k1.blk hk).2.1⟩⟩
end Go.Proofs.Ytoephhhofkmgjaa.gridmark
