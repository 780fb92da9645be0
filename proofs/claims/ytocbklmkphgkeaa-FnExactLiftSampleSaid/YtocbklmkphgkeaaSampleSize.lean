/- How large a sample is: plain lemmas, no condition. -/
import Derived.Test.YtocbklmkphgkeaaTurnLabels
namespace Go.Proofs.Ytocbklmkphgkeaa.samplesize
open Go.RowKit own pp

theorem tot_le (B : Nat) (rows : List (List Int)) (h : ∀ r ∈ rows, r.length ≤ B) : grid.tot rows ≤ rows.length * B := by
  induction rows with
  | nil => simp [grid.tot]
  | cons x r ih =>
    have h1 := h x (by simp)
    have h2 := ih fun y hy => h y (by simp [hy])
    unfold grid.tot at h2 ⊢
    simp only [List.map_cons, List.sum_cons, List.length_cons, Nat.add_mul]
    omega
theorem size_ok {rows : List (List Int)} {zs : List Int} (h : sampleB rows zs = true) : rows.length + grid.tot rows + zs.length ≤ 1048576 := by
  obtain ⟨h1, h2, _, _⟩ := (sampleB_iff _ _).1 h
  have ht := tot_le 4 rows fun r hr => by
    obtain ⟨k, hk, rfl⟩ := mem_getD rows [] r hr
    exact (turnlabels.row_pos h k hk).2
  omega
end Go.Proofs.Ytocbklmkphgkeaa.samplesize
