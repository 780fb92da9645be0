/- The law FnExactSidesSample: its walk, from the walks of the model's and the program's function. -/
import Derived.Test.YtoephhhofkmgjaaFnExactSidesSampleW
import Derived.Test.YtoephhhofkmgjaaSidesC
import Derived.Test.YtoephhhofkmgjaaSidesN
import Derived.Test.YtoephhhofkmgjaaSidesY
import Derived.Test.YtoephhhofkmgjaaGrid
namespace Go.Proofs.Ytoephhhofkmgjaa.fnExactSidesSamplel
open Go.RowKit own pp
set_option linter.unusedVariables false

theorem tot_le (B : Nat) (rows : List (List Int)) (h : ∀ r ∈ rows, r.length ≤ B) : grid.tot rows ≤ rows.length * B := by
  induction rows with
  | nil => simp [grid.tot]
  | cons x r ih =>
    have h1 := h x (by simp)
    have h2 := ih fun y hy => h y (by simp [hy])
    unfold grid.tot at h2 ⊢
    simp only [List.map_cons, List.sum_cons, List.length_cons, Nat.add_mul]
    omega
theorem law (a0 : Option Addr) (rows0 : List (List Int)) (c0 : Nat) (e0 : Option Addr) (zs0 : List Int) (d0 : Nat) (a1 : Option Addr) (ps1 : List (List Int × Int)) (c1 : Nat) (w : World) (hr0 : grid.Reads w a0 rows0) (hm0 : ∀ r ∈ rows0, r.length ≤ maxLen ∧ ∀ z ∈ r, grid.Fits z) (hl0 : rows0.length ≤ maxLen) (hq0 : ints.Reads .i64 w e0 zs0) (hf0 : ∀ z ∈ zs0, grid.Fits z) (hk0 : zs0.length ≤ maxLen) (hr1 : ReadsJ w a1 ps1) (hm1 : ∀ y ∈ ps1, y.1.length ≤ maxLen ∧ (∀ z ∈ y.1, grid.Fits z) ∧ grid.Fits y.2) (hl1 : ps1.length ≤ maxLen) :
    Calls Try.prog 14 #[.agg #[.slice a0 rows0.length c0, .slice e0 zs0.length d0], .slice a1 ps1.length c1] w fun e w' => e = .returned (.bool true) ∧ Below w.heap.size w w' := by
  unfold maxLen at hl0 hl1 hk0 hm0 hm1
  by_cases hs : (rows0.length : Int) + (grid.tot rows0 : Int) + (zs0.length : Int) + (ps1.length : Int) + (planesfns.totJ ps1 : Int) ≤ 1048576
  · have hs0 := hs
    cases hj : jurs.juryB ps1
    · exact fnExactSidesSamplew.law_small a0 rows0 c0 e0 zs0 d0 a1 ps1 c1 [] [] false w hr0 hq0 hr1 hs0 (by simp [grid.tot]) (Lib.hid fun _ _ _ _ _ _ w hr hz hx => sidesn.spec_sample_no1 _ rows0 _ _ zs0 _ _ ps1 _ w hr hz hx (by omega) (by omega) (fun r hr => by have := grid.len_le_tot rows0 r hr; omega) (by omega) (fun k hk => by have := planesfns.getD_le_totJ ps1 k; omega) hj) (Lib.hid fun _ _ _ _ _ _ w hr hz hx => sidesc.impl_sample_no _ rows0 _ _ zs0 _ _ ps1 _ w hr hz hx (by omega) (by omega) (fun r hr => by have := grid.len_le_tot rows0 r hr; omega) (by omega) (fun k hk => by have := planesfns.getD_le_totJ ps1 k; omega) (by unfold sidesc.sjB; rw [juri.maj_eq, hj]; simp))
    by_cases h4 : 4 < ps1.length
    · exact fnExactSidesSamplew.law_small a0 rows0 c0 e0 zs0 d0 a1 ps1 c1 [] [] false w hr0 hq0 hr1 hs0 (by simp [grid.tot]) (Lib.hid fun _ _ _ _ _ _ w hr hz hx => sidesn.spec_sample_no2 _ rows0 _ _ zs0 _ _ ps1 _ w hr hz hx (by omega) (by omega) (fun r hr => by have := grid.len_le_tot rows0 r hr; omega) (by omega) (fun k hk => by have := planesfns.getD_le_totJ ps1 k; omega) hj h4) (Lib.hid fun _ _ _ _ _ _ w hr hz hx => sidesc.impl_sample_no _ rows0 _ _ zs0 _ _ ps1 _ w hr hz hx (by omega) (by omega) (fun r hr => by have := grid.len_le_tot rows0 r hr; omega) (by omega) (fun k hk => by have := planesfns.getD_le_totJ ps1 k; omega) (by unfold sidesc.sjB; rw [decide_eq_false (by omega)]; rfl))
    cases ho : both.bothB rows0 zs0 (ps1.getD 0 ([], 0)).1 (ps1.getD 0 ([], 0)).2
    · exact fnExactSidesSamplew.law_small a0 rows0 c0 e0 zs0 d0 a1 ps1 c1 [] [] false w hr0 hq0 hr1 hs0 (by simp [grid.tot]) (Lib.hid fun _ _ _ _ _ _ w hr hz hx => sidesn.spec_sample_no3 _ rows0 _ _ zs0 _ _ ps1 _ w hr hz hx (by omega) (by omega) (fun r hr => by have := grid.len_le_tot rows0 r hr; omega) (by omega) (fun k hk => by have := planesfns.getD_le_totJ ps1 k; omega) hj (by omega) ho) (Lib.hid fun _ _ _ _ _ _ w hr hz hx => sidesc.impl_sample_no _ rows0 _ _ zs0 _ _ ps1 _ w hr hz hx (by omega) (by omega) (fun r hr => by have := grid.len_le_tot rows0 r hr; omega) (by omega) (fun k hk => by have := planesfns.getD_le_totJ ps1 k; omega) (by unfold sidesc.sjB; rw [juri.maj_eq, hj, ho]; simp))
    have hsb := (sampleB_iff _ _).1 ((both.bothB_iff _ _ _ _).1 ho).1
    have htl := tot_le 4 (rows0.map (juri.sidesL ps1)) (fun r hr => by obtain ⟨x, _, rfl⟩ := List.mem_map.1 hr; rw [juri.sidesL_length]; omega)
    rw [List.length_map] at htl
    have h16 := hsb.1
    have hzl := hsb.2.1
    have hsz : (rows0.map (juri.sidesL ps1)).length + grid.tot (rows0.map (juri.sidesL ps1)) + zs0.length ≤ 1048576 := by rw [List.length_map]; omega
    exact fnExactSidesSamplew.law_small a0 rows0 c0 e0 zs0 d0 a1 ps1 c1 (rows0.map (juri.sidesL ps1)) zs0 true w hr0 hq0 hr1 hs0 hsz (Lib.hid fun _ _ _ _ _ _ w hr hz hx => sidesy.spec_sample_yes _ rows0 _ _ zs0 _ _ ps1 _ w hr hz hx (by omega) (by omega) (fun r hr => by have := grid.len_le_tot rows0 r hr; omega) (by omega) (fun k hk => by have := planesfns.getD_le_totJ ps1 k; omega) hj (by omega) ho) (Lib.hid fun _ _ _ _ _ _ w hr hz hx => sidesc.impl_sample_yes _ rows0 _ _ zs0 _ _ ps1 _ w hr hz hx (by omega) (by omega) (fun r hr => by have := grid.len_le_tot rows0 r hr; omega) (by omega) (fun k hk => by have := planesfns.getD_le_totJ ps1 k; omega) (by unfold sidesc.sjB; rw [juri.maj_eq, hj, ho, decide_eq_true (by omega)]; rfl))
  · exact fnExactSidesSamplew.law_big a0 rows0 c0 e0 zs0 d0 a1 ps1 c1 w hr0 hq0 hr1 hl0 (fun s hs => (hm0 s hs).1) hk0 hl1 (fun s hs => (hm1 s hs).1) hs
end Go.Proofs.Ytoephhhofkmgjaa.fnExactSidesSamplel
