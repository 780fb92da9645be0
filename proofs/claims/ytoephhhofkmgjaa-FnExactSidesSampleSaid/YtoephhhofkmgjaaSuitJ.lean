/- The program's test whether planes suit a sample. -/
import Derived.Test.YtoephhhofkmgjaaIdxJ
import Derived.Test.YtoephhhofkmgjaaPlaneSFns
import Derived.Test.YtoephhhofkmgjaaSidesOf
import Derived.Test.YtoephhhofkmgjaaOnes
namespace Go.Proofs.Ytoephhhofkmgjaa.suitj
open Go.RowKit own pp nums samplesv samplest dots both sides sidesof ones idxj
set_option linter.unusedVariables false
set_option linter.unusedSimpArgs false

/-- All planes suit a sample. -/
def allB (rows : List (List Int)) (zs : List Int) (ps : List (List Int × Int)) : Bool := !((List.range ps.length).any fun k => !(bothB rows zs (ps.getD k ([], 0)).1 (ps.getD k ([], 0)).2))
theorem allB_iff (rows : List (List Int)) (zs : List Int) (ps : List (List Int × Int)) : allB rows zs ps = true ↔ ∀ k, k < ps.length → bothB rows zs (ps.getD k ([], 0)).1 (ps.getD k ([], 0)).2 = true := by
  unfold allB
  rw [Bool.not_eq_true', List.any_eq_false]
  constructor
  · intro h k hk
    have := h k (List.mem_range.2 hk)
    simpa using this
  · intro h k hk
    rw [h k (List.mem_range.1 hk)]
    simp
theorem one_both (xs : List Int) (ws : List Int) (b : Int) : bothB [xs] [1] ws b = oneB ws b xs := by
  have e : sampleB [xs] [1] = pointB xs := by
    simp [sampleB, rowsB, labelsB, labelB]
  unfold bothB oneB
  rw [e]
  simp only [List.length_cons, List.length_nil, List.getD_cons_zero]
  cases pointB xs <;> cases planeB ws b <;> simp

set_option maxRecDepth 100000 in
set_option maxHeartbeats 1600000 in
theorem suit_at (g : Nat) (a : Option Addr) (rows : List (List Int)) (c : Nat) (a' : Option Addr) (zs : List Int) (c' : Nat) (p : Option Addr) (ws : List Int) (q : Nat) (b : Int) (w : World) (y0 : w.cell? ⟨g, 0, none⟩ = some (.slice a rows.length c)) (y1 : w.cell? ⟨g, 1, none⟩ = some (.slice a' zs.length c')) (hr : grid.Reads w a rows) (hz : ints.Reads .i64 w a' zs) (hp : ints.Reads .i64 w p ws) (hn : rows.length ≤ 1048576) (hk : zs.length ≤ 1048576) (hm : ∀ r ∈ rows, r.length ≤ 1048576) (hw : ws.length ≤ 1048576) (ok : Bool) (h : Hid (bothB rows zs ws b = ok)) :
    Calls Try.prog 141 #[.agg #[.slice p ws.length q, .int .i64 b], .pointer (some ⟨g, 0, none⟩)] w (fun e w' => e = .returned (.bool (!ok)) ∧ Below w.heap.size w w') := by
  have hg := World.block_lt_of_cell? w _ y0
  dsimp only at hg
  have Hhr := Lib.hid hr
  have Hhz := Lib.hid hz
  have Hhp := Lib.hid hp
  have Hhm := Lib.hid hm
  clear hr hz hp hm
  replace y0 := cell_old (.cells #[.slice p ws.length q, .int .i64 b] 86) y0
  replace y1 := cell_old (.cells #[.slice p ws.length q, .int .i64 b] 86) y1
  have HB0 := Lib.hid (below_alloc w (.cells #[.slice p ws.length q, .int .i64 b] 86))
  have s1 := size_alloc' w (.cells #[.slice p ws.length q, .int .i64 b] 86)
  go_enter Try.func141, Try.ntmps141
  go_wp2_with fail
  generalize hw9 : w.alloc (.cells #[.slice p ws.length q, .int .i64 b] 86) = wb1 at *
  clear hw9
  refine (impl_suits a rows c a' zs c' p ws q b _ (Hhr.out.below HB0.out) (Hhz.out.below HB0.out) (Hhp.out.below HB0.out) hn hk Hhm.out hw ok h).mono ?_
  rintro e w2 ⟨rfl, hb⟩
  have HB2 := Lib.hid (HB0.out.trans (hb.mono (by omega)))
  clear hb
  go_wp2_with fail
  go_ret
  exact ⟨rfl, HB2.out⟩
set_option maxRecDepth 100000 in
set_option maxHeartbeats 1600000 in
theorem all_suit (a : Option Addr) (rows : List (List Int)) (c : Nat) (a' : Option Addr) (zs : List Int) (c' : Nat) (x : Option Addr) (ps : List (List Int × Int)) (d : Nat) (w : World) (hr : grid.Reads w a rows) (hz : ints.Reads .i64 w a' zs) (hx : ReadsJ w x ps) (hn : rows.length ≤ 1048576) (hk : zs.length ≤ 1048576) (hm : ∀ r ∈ rows, r.length ≤ 1048576) (hw : ps.length ≤ 1048576) (hw2 : ∀ k, k < ps.length → (ps.getD k ([], 0)).1.length ≤ 1048576) :
    Calls Try.prog 126 #[.agg #[.slice a rows.length c, .slice a' zs.length c'], .slice x ps.length d] w (RetB (allB rows zs ps) w) := by
  have Hhr := Lib.hid hr
  have Hhz := Lib.hid hz
  have Hhm := Lib.hid hm
  have Hhx := Lib.hid hx
  clear hr hz hm hx
  go_enter Try.func126, Try.ntmps126
  obtain ⟨wb1, hw1⟩ : ∃ wb1 : World, wb1 = w.alloc (.cells #[.slice a rows.length c, .slice a' zs.length c'] 59) := ⟨_, rfl⟩
  have z1 : wb1.heap.size = w.heap.size + 1 := by rw [hw1]; simp
  have x0_0 := (by rw [hw1]; exact cell_new _ _ _ rfl rfl : wb1.cell? ⟨w.heap.size, 0, none⟩ = some (.slice a rows.length c))
  have x0_1 := (by rw [hw1]; exact cell_new _ _ _ rfl rfl : wb1.cell? ⟨w.heap.size, 1, none⟩ = some (.slice a' zs.length c'))
  have HB0 := Lib.hid (show Below w.heap.size w wb1 by rw [hw1]; exact (Below.refl w.heap.size w).alloc (Nat.le_refl _) _)
  have s1 : w.heap.size + 1 ≤ wb1.heap.size := by omega
  have HZ1 := Lib.hid z1
  clear z1
  go_wp2_with fail
  rw [← hw1]
  clear hw1
  refine (hasP 141 (enters_of Try.func141 (by kernel_rfl) rfl) _ x ps d (fun k => !(bothB rows zs (ps.getD k ([], 0)).1 (ps.getD k ([], 0)).2)) wb1 hw (Lib.hid (Hhx.out.below HB0.out)) (Lib.hid fun k wr q d hk' hb hq => ?_)).mono ?_
  · have hB := HB0.out.trans (hb.mono (by omega))
    exact suit_at w.heap.size a rows c a' zs c' q _ d _ wr (cell_below hb x0_0 (by omega)) (cell_below hb x0_1 (by omega)) (Hhr.out.below hB) (Hhz.out.below hB) hq hn hk Hhm.out (hw2 k hk') _ (Lib.hid rfl)
  rintro e w2 ⟨rfl, hb⟩
  have HB2 := Lib.hid (HB0.out.trans (hb.mono (by omega)))
  have HF := Lib.hid (show RetB (allB rows zs ps) w (.returned (.bool (!((List.range ps.length).any fun k => !(bothB rows zs (ps.getD k ([], 0)).1 (ps.getD k ([], 0)).2))))) w2 from ⟨rfl, HB2.out⟩)
  clear hb
  generalize ((List.range ps.length).any fun k => !(bothB rows zs (ps.getD k ([], 0)).1 (ps.getD k ([], 0)).2)) = y9 at *
  go_wp2_with fail
  go_ret
  exact HF.out
end Go.Proofs.Ytoephhhofkmgjaa.suitj
