/- The walks of the model's and the program's test of a sample and a plane that suits it. -/
import Derived.Test.YtoephhhofkmgjaaSamplesT
import Derived.Test.YtoephhhofkmgjaaDots
import Derived.Deep.RegionWith
namespace Go.Proofs.Ytoephhhofkmgjaa.both
open Go.RowKit own pp nums samplesv samplest planes
set_option linter.unusedVariables false
set_option linter.unusedSimpArgs false

/-- A sample and a plane that suits it. -/
def bothB (rows : List (List Int)) (zs : List Int) (ws : List Int) (b : Int) : Bool := sampleB rows zs && planeB ws b && (decide (rows.length = 0) || decide ((rows.getD 0 []).length = ws.length))
theorem bothB_iff (rows : List (List Int)) (zs : List Int) (ws : List Int) (b : Int) : bothB rows zs ws b = true ↔ sampleB rows zs = true ∧ planeB ws b = true ∧ (rows.length = 0 ∨ (rows.getD 0 []).length = ws.length) := by simp [bothB, and_assoc]

set_option maxRecDepth 100000 in
set_option maxHeartbeats 4000000 in
theorem spec_both (a : Option Addr) (rows : List (List Int)) (c : Nat) (a' : Option Addr) (zs : List Int) (c' : Nat) (p : Option Addr) (ws : List Int) (q : Nat) (b : Int) (w : World) (hr : grid.Reads w a rows) (hq : ints.Reads .i64 w a' zs) (hp : ints.Reads .i64 w p ws) (hn : rows.length ≤ 1048576) (hz : zs.length ≤ 1048576) (hm : ∀ r ∈ rows, r.length ≤ 1048576) (hk : ws.length ≤ 1048576) (ok : Bool) (h : Hid (bothB rows zs ws b = ok)) :
    Calls Try.prog 95 #[.agg #[.slice a rows.length c, .slice a' zs.length c'], .agg #[.slice p ws.length q, .int .i64 b]] w (RetB ok w) := by
  cases hs : sampleB rows zs
  · have e : ok = false := by rw [← h.out]; simp [bothB, hs]
    have HS := Lib.hid hs
    clear h hs
    subst e
    have Hhr := Lib.hid hr
    have Hhq := Lib.hid hq
    have Hhp := Lib.hid hp
    have Hhm := Lib.hid hm
    clear hr hq hp hm
    go_enter Try.func95, Try.ntmps95
    go_wp2_with fail
    have x0_0 : (w.alloc (.cells #[.slice a rows.length c, .slice a' zs.length c'] 59)).cell? ⟨w.heap.size, 0, none⟩ = some (.slice a rows.length c) := cell_new _ _ _ (by simp) rfl
    have x0_1 : (w.alloc (.cells #[.slice a rows.length c, .slice a' zs.length c'] 59)).cell? ⟨w.heap.size, 1, none⟩ = some (.slice a' zs.length c') := cell_new _ _ _ (by simp) rfl
    have HB0 := Lib.hid (below_alloc w (.cells #[.slice a rows.length c, .slice a' zs.length c'] 59))
    replace x0_0 := cell_old (.cells #[.slice p ws.length q, .int .i64 b] 86) x0_0
    replace x0_1 := cell_old (.cells #[.slice p ws.length q, .int .i64 b] 86) x0_1
    have x1_0 : ((w.alloc (.cells #[.slice a rows.length c, .slice a' zs.length c'] 59)).alloc (.cells #[.slice p ws.length q, .int .i64 b] 86)).cell? ⟨w.heap.size + 1, 0, none⟩ = some (.slice p ws.length q) := cell_new _ _ _ (by simp) rfl
    have x1_1 : ((w.alloc (.cells #[.slice a rows.length c, .slice a' zs.length c'] 59)).alloc (.cells #[.slice p ws.length q, .int .i64 b] 86)).cell? ⟨w.heap.size + 1, 1, none⟩ = some (.int .i64 b) := cell_new _ _ _ (by simp) rfl
    replace HB0 := Lib.hid (HB0.out.alloc (by simp) (.cells #[.slice p ws.length q, .int .i64 b] 86))
    have s0 : w.heap.size + 2 ≤ ((w.alloc (.cells #[.slice a rows.length c, .slice a' zs.length c'] 59)).alloc (.cells #[.slice p ws.length q, .int .i64 b] 86)).heap.size := by simp
    generalize hw : ((w.alloc (.cells #[.slice a rows.length c, .slice a' zs.length c'] 59)).alloc (.cells #[.slice p ws.length q, .int .i64 b] 86)) = w0 at *
    clear hw
    have n0_0 : w.heap.size < w0.heap.size := by omega
    have n0_1 : w.heap.size + 1 < w0.heap.size := by omega
    have HT0 := Lib.hid (show ∀ wa : World, (wa.cell? ⟨w.heap.size, 0, none⟩ = some (.slice a rows.length c) ∧ wa.cell? ⟨w.heap.size, 1, none⟩ = some (.slice a' zs.length c') ∧ wa.cell? ⟨w.heap.size + 1, 0, none⟩ = some (.slice p ws.length q) ∧ wa.cell? ⟨w.heap.size + 1, 1, none⟩ = some (.int .i64 b) ∧ Below w0.heap.size w0 wa) → Calls Try.prog 124 #[.agg #[.slice a rows.length c, .slice a' zs.length c']] wa fun e w' => e = .returned (.bool false) ∧ w'.cell? ⟨w.heap.size, 0, none⟩ = some (.slice a rows.length c) ∧ w'.cell? ⟨w.heap.size, 1, none⟩ = some (.slice a' zs.length c') ∧ w'.cell? ⟨w.heap.size + 1, 0, none⟩ = some (.slice p ws.length q) ∧ w'.cell? ⟨w.heap.size + 1, 1, none⟩ = some (.int .i64 b) ∧ Below w0.heap.size w0 w' from fun wa hS => by
      have hwz := hS.2.2.2.2.size
      have hB := HB0.out.trans (hS.2.2.2.2.mono (by omega))
      refine (spec_sample a rows c a' zs c' wa (Hhr.out.below hB) (Hhq.out.below hB) hn hz Hhm.out false HS).mono ?_
      rintro e w' ⟨rfl, hb⟩
      exact ⟨rfl, cell_below hb hS.1 (by omega), cell_below hb hS.2.1 (by omega), cell_below hb hS.2.2.1 (by omega), cell_below hb hS.2.2.2.1 (by omega), hS.2.2.2.2.trans (hb.mono (by omega))⟩)
    refine wp_region_any (by kernel_rfl) ?_
    try (change wpAny _ _ _ _ _ _ _ (World.drew _))
    refine wpAny_ready (rs := [0]) (by kernel_rfl) (by simp) ?_
    refine AllReady.cons rfl (fun K hK => ?_) AllReady.nil
    go_simp
    refine hK _ _ ?_
    clear hK K
    refine wpAny_ready (rs := [1]) (by kernel_rfl) (by simp) ?_
    refine AllReady.cons rfl (fun K hK => ?_) AllReady.nil
    go_simp
    refine Calls.mono (HT0.out _ ?_) ?_
    · first | exact ⟨x0_0, x0_1, x1_0, x1_1, (Below.refl _ _)⟩ | exact ⟨x0_0, x0_1, x1_0, x1_1, (Below.refl _ _).drew⟩
    rintro e v0 ⟨rfl, y0_0, y0_1, y0_2, y0_3, hb0⟩
    have HH0 := Lib.hid hb0
    clear hb0
    refine hK _ _ ?_
    clear hK K
    refine wpAny_take (i := 2) (v := ?_) rfl (by kernel_rfl) (by kernel_rfl) (by kernel_rfl) (fun _ _ _ h => h) (Or.inl ⟨by rfl, ?_⟩) ?_
    rotate_left
    · intro w; go_simp; try with_reducible rfl
    try simp only [List.getElem_toArray, List.getElem_cons_succ, List.getElem_cons_zero, Act.put, List.setIfInBounds_toArray, List.set_cons_zero, List.set_cons_succ]
    refine wpAny_take (i := 3) (v := undef) rfl (by kernel_rfl) (by kernel_rfl) (by kernel_rfl) (fun _ _ _ h => h) (Or.inr ⟨by rfl, rfl⟩) ?_
    try simp only [List.getElem_toArray, List.getElem_cons_succ, List.getElem_cons_zero, Act.put, List.setIfInBounds_toArray, List.set_cons_zero, List.set_cons_succ]
    refine wpAny_take (i := 4) (v := undef) rfl (by kernel_rfl) (by kernel_rfl) (by kernel_rfl) (fun _ _ _ h => h) (Or.inr ⟨by rfl, rfl⟩) ?_
    try simp only [List.getElem_toArray, List.getElem_cons_succ, List.getElem_cons_zero, Act.put, List.setIfInBounds_toArray, List.set_cons_zero, List.set_cons_succ]
    refine wpAny_take (i := 5) (v := ?_) rfl (by kernel_rfl) (by kernel_rfl) (by kernel_rfl) (fun _ _ _ h => h) (Or.inl ⟨by rfl, ?_⟩) ?_
    rotate_left
    · intro w; go_simp; try with_reducible rfl
    try simp only [List.getElem_toArray, List.getElem_cons_succ, List.getElem_cons_zero, Act.put, List.setIfInBounds_toArray, List.set_cons_zero, List.set_cons_succ]
    refine wpAny_take (i := 6) (v := ?_) rfl (by kernel_rfl) (by kernel_rfl) (by kernel_rfl) (fun _ _ _ h => h) (Or.inl ⟨by rfl, ?_⟩) ?_
    rotate_left
    · intro w; go_simp; try with_reducible rfl
    try simp only [List.getElem_toArray, List.getElem_cons_succ, List.getElem_cons_zero, Act.put, List.setIfInBounds_toArray, List.set_cons_zero, List.set_cons_succ]
    refine wpAny_take (i := 7) (v := undef) rfl (by kernel_rfl) (by kernel_rfl) (by kernel_rfl) (fun _ _ _ h => h) (Or.inr ⟨by rfl, rfl⟩) ?_
    try simp only [List.getElem_toArray, List.getElem_cons_succ, List.getElem_cons_zero, Act.put, List.setIfInBounds_toArray, List.set_cons_zero, List.set_cons_succ]
    refine wpAny_take (i := 8) (v := undef) rfl (by kernel_rfl) (by kernel_rfl) (by kernel_rfl) (fun _ _ _ h => h) (Or.inr ⟨by rfl, rfl⟩) ?_
    try simp only [List.getElem_toArray, List.getElem_cons_succ, List.getElem_cons_zero, Act.put, List.setIfInBounds_toArray, List.set_cons_zero, List.set_cons_succ]
    refine wpAny_take (i := 9) (v := undef) rfl (by kernel_rfl) (by kernel_rfl) (by kernel_rfl) (fun _ _ _ h => h) (Or.inr ⟨by rfl, rfl⟩) ?_
    try simp only [List.getElem_toArray, List.getElem_cons_succ, List.getElem_cons_zero, Act.put, List.setIfInBounds_toArray, List.set_cons_zero, List.set_cons_succ]
    refine wpAny_take (i := 10) (v := undef) rfl (by kernel_rfl) (by kernel_rfl) (by kernel_rfl) (fun _ _ _ h => h) (Or.inr ⟨by rfl, rfl⟩) ?_
    try simp only [List.getElem_toArray, List.getElem_cons_succ, List.getElem_cons_zero, Act.put, List.setIfInBounds_toArray, List.set_cons_zero, List.set_cons_succ]
    refine wpAny_take (i := 11) (v := undef) rfl (by kernel_rfl) (by kernel_rfl) (by kernel_rfl) (fun _ _ _ h => h) (Or.inr ⟨by rfl, rfl⟩) ?_
    try simp only [List.getElem_toArray, List.getElem_cons_succ, List.getElem_cons_zero, Act.put, List.setIfInBounds_toArray, List.set_cons_zero, List.set_cons_succ]
    refine wpAny_take (i := 12) (v := undef) rfl (by kernel_rfl) (by kernel_rfl) (by kernel_rfl) (fun _ _ _ h => h) (Or.inr ⟨by rfl, rfl⟩) ?_
    try simp only [List.getElem_toArray, List.getElem_cons_succ, List.getElem_cons_zero, Act.put, List.setIfInBounds_toArray, List.set_cons_zero, List.set_cons_succ]
    refine wpAny_take (i := 13) (v := undef) rfl (by kernel_rfl) (by kernel_rfl) (by kernel_rfl) (fun _ _ _ h => h) (Or.inr ⟨by rfl, rfl⟩) ?_
    try simp only [List.getElem_toArray, List.getElem_cons_succ, List.getElem_cons_zero, Act.put, List.setIfInBounds_toArray, List.set_cons_zero, List.set_cons_succ]
    refine wpAny_take (i := 14) (v := undef) rfl (by kernel_rfl) (by kernel_rfl) (by kernel_rfl) (fun _ _ _ h => h) (Or.inr ⟨by rfl, rfl⟩) ?_
    try simp only [List.getElem_toArray, List.getElem_cons_succ, List.getElem_cons_zero, Act.put, List.setIfInBounds_toArray, List.set_cons_zero, List.set_cons_succ]
    refine wpAny_take (i := 15) (v := undef) rfl (by kernel_rfl) (by kernel_rfl) (by kernel_rfl) (fun _ _ _ h => h) (Or.inr ⟨by rfl, rfl⟩) ?_
    try simp only [List.getElem_toArray, List.getElem_cons_succ, List.getElem_cons_zero, Act.put, List.setIfInBounds_toArray, List.set_cons_zero, List.set_cons_succ]
    refine wpAny_take (i := 16) (v := undef) rfl (by kernel_rfl) (by kernel_rfl) (by kernel_rfl) (fun _ _ _ h => h) (Or.inr ⟨by rfl, rfl⟩) ?_
    try simp only [List.getElem_toArray, List.getElem_cons_succ, List.getElem_cons_zero, Act.put, List.setIfInBounds_toArray, List.set_cons_zero, List.set_cons_succ]
    refine wpAny_take (i := 17) (v := undef) rfl (by kernel_rfl) (by kernel_rfl) (by kernel_rfl) (fun _ _ _ h => h) (Or.inr ⟨by rfl, rfl⟩) ?_
    try simp only [List.getElem_toArray, List.getElem_cons_succ, List.getElem_cons_zero, Act.put, List.setIfInBounds_toArray, List.set_cons_zero, List.set_cons_succ]
    refine wpAny_take (i := 18) (v := undef) rfl (by kernel_rfl) (by kernel_rfl) (by kernel_rfl) (fun _ _ _ h => h) (Or.inr ⟨by rfl, rfl⟩) ?_
    try simp only [List.getElem_toArray, List.getElem_cons_succ, List.getElem_cons_zero, Act.put, List.setIfInBounds_toArray, List.set_cons_zero, List.set_cons_succ]
    refine wpAny_take (i := 19) (v := undef) rfl (by kernel_rfl) (by kernel_rfl) (by kernel_rfl) (fun _ _ _ h => h) (Or.inr ⟨by rfl, rfl⟩) ?_
    try simp only [List.getElem_toArray, List.getElem_cons_succ, List.getElem_cons_zero, Act.put, List.setIfInBounds_toArray, List.set_cons_zero, List.set_cons_succ]
    refine wpAny_take (i := 20) (v := undef) rfl (by kernel_rfl) (by kernel_rfl) (by kernel_rfl) (fun _ _ _ h => h) (Or.inr ⟨by rfl, rfl⟩) ?_
    try simp only [List.getElem_toArray, List.getElem_cons_succ, List.getElem_cons_zero, Act.put, List.setIfInBounds_toArray, List.set_cons_zero, List.set_cons_succ]
    refine wpAny_take (i := 21) (v := undef) rfl (by kernel_rfl) (by kernel_rfl) (by kernel_rfl) (fun _ _ _ h => h) (Or.inr ⟨by rfl, rfl⟩) ?_
    try simp only [List.getElem_toArray, List.getElem_cons_succ, List.getElem_cons_zero, Act.put, List.setIfInBounds_toArray, List.set_cons_zero, List.set_cons_succ]
    refine wpAny_take (i := 22) (v := ?_) rfl (by kernel_rfl) (by kernel_rfl) (by kernel_rfl) (fun _ _ _ h => h) (Or.inl ⟨by rfl, ?_⟩) ?_
    rotate_left
    · intro w; go_simp; try with_reducible rfl
    try simp only [List.getElem_toArray, List.getElem_cons_succ, List.getElem_cons_zero, Act.put, List.setIfInBounds_toArray, List.set_cons_zero, List.set_cons_succ]
    refine wpAny_take (i := 23) (v := ?_) rfl (by kernel_rfl) (by kernel_rfl) (by kernel_rfl) (fun _ _ _ h => h) (Or.inl ⟨by rfl, ?_⟩) ?_
    rotate_left
    · intro w; go_simp; try with_reducible rfl
    try simp only [List.getElem_toArray, List.getElem_cons_succ, List.getElem_cons_zero, Act.put, List.setIfInBounds_toArray, List.set_cons_zero, List.set_cons_succ]
    refine wpAny_done (by kernel_rfl) ?_ _
    go_wp2_with fail
    go_ret
    first | exact ⟨rfl, HB0.out.trans (HH0.out.mono (by omega))⟩ | exact ⟨rfl, HB0.out.trans (HH0.out.drew.mono (by omega))⟩
  cases hpl : planeB ws b
  · have e : ok = false := by rw [← h.out]; simp [bothB, hpl]
    have HS := Lib.hid hs
    have HP := Lib.hid hpl
    clear h hs hpl
    subst e
    have Hhr := Lib.hid hr
    have Hhq := Lib.hid hq
    have Hhp := Lib.hid hp
    have Hhm := Lib.hid hm
    clear hr hq hp hm
    go_enter Try.func95, Try.ntmps95
    go_wp2_with fail
    have x0_0 : (w.alloc (.cells #[.slice a rows.length c, .slice a' zs.length c'] 59)).cell? ⟨w.heap.size, 0, none⟩ = some (.slice a rows.length c) := cell_new _ _ _ (by simp) rfl
    have x0_1 : (w.alloc (.cells #[.slice a rows.length c, .slice a' zs.length c'] 59)).cell? ⟨w.heap.size, 1, none⟩ = some (.slice a' zs.length c') := cell_new _ _ _ (by simp) rfl
    have HB0 := Lib.hid (below_alloc w (.cells #[.slice a rows.length c, .slice a' zs.length c'] 59))
    replace x0_0 := cell_old (.cells #[.slice p ws.length q, .int .i64 b] 86) x0_0
    replace x0_1 := cell_old (.cells #[.slice p ws.length q, .int .i64 b] 86) x0_1
    have x1_0 : ((w.alloc (.cells #[.slice a rows.length c, .slice a' zs.length c'] 59)).alloc (.cells #[.slice p ws.length q, .int .i64 b] 86)).cell? ⟨w.heap.size + 1, 0, none⟩ = some (.slice p ws.length q) := cell_new _ _ _ (by simp) rfl
    have x1_1 : ((w.alloc (.cells #[.slice a rows.length c, .slice a' zs.length c'] 59)).alloc (.cells #[.slice p ws.length q, .int .i64 b] 86)).cell? ⟨w.heap.size + 1, 1, none⟩ = some (.int .i64 b) := cell_new _ _ _ (by simp) rfl
    replace HB0 := Lib.hid (HB0.out.alloc (by simp) (.cells #[.slice p ws.length q, .int .i64 b] 86))
    have s0 : w.heap.size + 2 ≤ ((w.alloc (.cells #[.slice a rows.length c, .slice a' zs.length c'] 59)).alloc (.cells #[.slice p ws.length q, .int .i64 b] 86)).heap.size := by simp
    generalize hw : ((w.alloc (.cells #[.slice a rows.length c, .slice a' zs.length c'] 59)).alloc (.cells #[.slice p ws.length q, .int .i64 b] 86)) = w0 at *
    clear hw
    have n0_0 : w.heap.size < w0.heap.size := by omega
    have n0_1 : w.heap.size + 1 < w0.heap.size := by omega
    have HT0 := Lib.hid (show ∀ wa : World, (wa.cell? ⟨w.heap.size, 0, none⟩ = some (.slice a rows.length c) ∧ wa.cell? ⟨w.heap.size, 1, none⟩ = some (.slice a' zs.length c') ∧ wa.cell? ⟨w.heap.size + 1, 0, none⟩ = some (.slice p ws.length q) ∧ wa.cell? ⟨w.heap.size + 1, 1, none⟩ = some (.int .i64 b) ∧ Below w0.heap.size w0 wa) → Calls Try.prog 124 #[.agg #[.slice a rows.length c, .slice a' zs.length c']] wa fun e w' => e = .returned (.bool true) ∧ w'.cell? ⟨w.heap.size, 0, none⟩ = some (.slice a rows.length c) ∧ w'.cell? ⟨w.heap.size, 1, none⟩ = some (.slice a' zs.length c') ∧ w'.cell? ⟨w.heap.size + 1, 0, none⟩ = some (.slice p ws.length q) ∧ w'.cell? ⟨w.heap.size + 1, 1, none⟩ = some (.int .i64 b) ∧ Below w0.heap.size w0 w' from fun wa hS => by
      have hwz := hS.2.2.2.2.size
      have hB := HB0.out.trans (hS.2.2.2.2.mono (by omega))
      refine (spec_sample a rows c a' zs c' wa (Hhr.out.below hB) (Hhq.out.below hB) hn hz Hhm.out true HS).mono ?_
      rintro e w' ⟨rfl, hb⟩
      exact ⟨rfl, cell_below hb hS.1 (by omega), cell_below hb hS.2.1 (by omega), cell_below hb hS.2.2.1 (by omega), cell_below hb hS.2.2.2.1 (by omega), hS.2.2.2.2.trans (hb.mono (by omega))⟩)
    have HT1 := Lib.hid (show ∀ wa : World, (wa.cell? ⟨w.heap.size, 0, none⟩ = some (.slice a rows.length c) ∧ wa.cell? ⟨w.heap.size, 1, none⟩ = some (.slice a' zs.length c') ∧ wa.cell? ⟨w.heap.size + 1, 0, none⟩ = some (.slice p ws.length q) ∧ wa.cell? ⟨w.heap.size + 1, 1, none⟩ = some (.int .i64 b) ∧ Below w0.heap.size w0 wa) → Calls Try.prog 103 #[.agg #[.slice p ws.length q, .int .i64 b]] wa fun e w' => e = .returned (.bool false) ∧ w'.cell? ⟨w.heap.size, 0, none⟩ = some (.slice a rows.length c) ∧ w'.cell? ⟨w.heap.size, 1, none⟩ = some (.slice a' zs.length c') ∧ w'.cell? ⟨w.heap.size + 1, 0, none⟩ = some (.slice p ws.length q) ∧ w'.cell? ⟨w.heap.size + 1, 1, none⟩ = some (.int .i64 b) ∧ Below w0.heap.size w0 w' from fun wa hS => by
      have hwz := hS.2.2.2.2.size
      have hB := HB0.out.trans (hS.2.2.2.2.mono (by omega))
      refine (spec_plane p ws q b wa (Hhp.out.below hB) hk false HP).mono ?_
      rintro e w' ⟨rfl, hb⟩
      exact ⟨rfl, cell_below hb hS.1 (by omega), cell_below hb hS.2.1 (by omega), cell_below hb hS.2.2.1 (by omega), cell_below hb hS.2.2.2.1 (by omega), hS.2.2.2.2.trans (hb.mono (by omega))⟩)
    refine wp_region_any (by kernel_rfl) ?_
    try (change wpAny _ _ _ _ _ _ _ (World.drew _))
    refine wpAny_ready (rs := [0]) (by kernel_rfl) (by simp) ?_
    refine AllReady.cons rfl (fun K hK => ?_) AllReady.nil
    go_simp
    refine hK _ _ ?_
    clear hK K
    refine wpAny_ready (rs := [1]) (by kernel_rfl) (by simp) ?_
    refine AllReady.cons rfl (fun K hK => ?_) AllReady.nil
    go_simp
    refine Calls.mono (HT0.out _ ?_) ?_
    · first | exact ⟨x0_0, x0_1, x1_0, x1_1, (Below.refl _ _)⟩ | exact ⟨x0_0, x0_1, x1_0, x1_1, (Below.refl _ _).drew⟩
    rintro e v0 ⟨rfl, y0_0, y0_1, y0_2, y0_3, hb0⟩
    have HH0 := Lib.hid hb0
    clear hb0
    refine hK _ _ ?_
    clear hK K
    refine wpAny_take (i := 2) (v := ?_) rfl (by kernel_rfl) (by kernel_rfl) (by kernel_rfl) (fun _ _ _ h => h) (Or.inl ⟨by rfl, ?_⟩) ?_
    rotate_left
    · intro w; go_simp; try with_reducible rfl
    try simp only [List.getElem_toArray, List.getElem_cons_succ, List.getElem_cons_zero, Act.put, List.setIfInBounds_toArray, List.set_cons_zero, List.set_cons_succ]
    refine wpAny_ready (rs := [3]) (by kernel_rfl) (by simp) ?_
    refine AllReady.cons rfl (fun K hK => ?_) AllReady.nil
    go_simp
    refine hK _ _ ?_
    clear hK K
    refine wpAny_ready (rs := [4]) (by kernel_rfl) (by simp) ?_
    refine AllReady.cons rfl (fun K hK => ?_) AllReady.nil
    go_simp
    refine Calls.mono (HT1.out _ ?_) ?_
    · first | exact ⟨y0_0, y0_1, y0_2, y0_3, HH0.out⟩ | exact ⟨y0_0, y0_1, y0_2, y0_3, HH0.out.drew⟩
    rintro e v1 ⟨rfl, y1_0, y1_1, y1_2, y1_3, hb1⟩
    have HH1 := Lib.hid hb1
    clear hb1
    refine hK _ _ ?_
    clear hK K
    refine wpAny_take (i := 5) (v := ?_) rfl (by kernel_rfl) (by kernel_rfl) (by kernel_rfl) (fun _ _ _ h => h) (Or.inl ⟨by rfl, ?_⟩) ?_
    rotate_left
    · intro w; go_simp; try with_reducible rfl
    try simp only [List.getElem_toArray, List.getElem_cons_succ, List.getElem_cons_zero, Act.put, List.setIfInBounds_toArray, List.set_cons_zero, List.set_cons_succ]
    refine wpAny_take (i := 6) (v := ?_) rfl (by kernel_rfl) (by kernel_rfl) (by kernel_rfl) (fun _ _ _ h => h) (Or.inl ⟨by rfl, ?_⟩) ?_
    rotate_left
    · intro w; go_simp; try with_reducible rfl
    try simp only [List.getElem_toArray, List.getElem_cons_succ, List.getElem_cons_zero, Act.put, List.setIfInBounds_toArray, List.set_cons_zero, List.set_cons_succ]
    refine wpAny_take (i := 7) (v := undef) rfl (by kernel_rfl) (by kernel_rfl) (by kernel_rfl) (fun _ _ _ h => h) (Or.inr ⟨by rfl, rfl⟩) ?_
    try simp only [List.getElem_toArray, List.getElem_cons_succ, List.getElem_cons_zero, Act.put, List.setIfInBounds_toArray, List.set_cons_zero, List.set_cons_succ]
    refine wpAny_take (i := 8) (v := undef) rfl (by kernel_rfl) (by kernel_rfl) (by kernel_rfl) (fun _ _ _ h => h) (Or.inr ⟨by rfl, rfl⟩) ?_
    try simp only [List.getElem_toArray, List.getElem_cons_succ, List.getElem_cons_zero, Act.put, List.setIfInBounds_toArray, List.set_cons_zero, List.set_cons_succ]
    refine wpAny_take (i := 9) (v := undef) rfl (by kernel_rfl) (by kernel_rfl) (by kernel_rfl) (fun _ _ _ h => h) (Or.inr ⟨by rfl, rfl⟩) ?_
    try simp only [List.getElem_toArray, List.getElem_cons_succ, List.getElem_cons_zero, Act.put, List.setIfInBounds_toArray, List.set_cons_zero, List.set_cons_succ]
    refine wpAny_take (i := 10) (v := undef) rfl (by kernel_rfl) (by kernel_rfl) (by kernel_rfl) (fun _ _ _ h => h) (Or.inr ⟨by rfl, rfl⟩) ?_
    try simp only [List.getElem_toArray, List.getElem_cons_succ, List.getElem_cons_zero, Act.put, List.setIfInBounds_toArray, List.set_cons_zero, List.set_cons_succ]
    refine wpAny_take (i := 11) (v := undef) rfl (by kernel_rfl) (by kernel_rfl) (by kernel_rfl) (fun _ _ _ h => h) (Or.inr ⟨by rfl, rfl⟩) ?_
    try simp only [List.getElem_toArray, List.getElem_cons_succ, List.getElem_cons_zero, Act.put, List.setIfInBounds_toArray, List.set_cons_zero, List.set_cons_succ]
    refine wpAny_take (i := 12) (v := undef) rfl (by kernel_rfl) (by kernel_rfl) (by kernel_rfl) (fun _ _ _ h => h) (Or.inr ⟨by rfl, rfl⟩) ?_
    try simp only [List.getElem_toArray, List.getElem_cons_succ, List.getElem_cons_zero, Act.put, List.setIfInBounds_toArray, List.set_cons_zero, List.set_cons_succ]
    refine wpAny_take (i := 13) (v := undef) rfl (by kernel_rfl) (by kernel_rfl) (by kernel_rfl) (fun _ _ _ h => h) (Or.inr ⟨by rfl, rfl⟩) ?_
    try simp only [List.getElem_toArray, List.getElem_cons_succ, List.getElem_cons_zero, Act.put, List.setIfInBounds_toArray, List.set_cons_zero, List.set_cons_succ]
    refine wpAny_take (i := 14) (v := undef) rfl (by kernel_rfl) (by kernel_rfl) (by kernel_rfl) (fun _ _ _ h => h) (Or.inr ⟨by rfl, rfl⟩) ?_
    try simp only [List.getElem_toArray, List.getElem_cons_succ, List.getElem_cons_zero, Act.put, List.setIfInBounds_toArray, List.set_cons_zero, List.set_cons_succ]
    refine wpAny_take (i := 15) (v := undef) rfl (by kernel_rfl) (by kernel_rfl) (by kernel_rfl) (fun _ _ _ h => h) (Or.inr ⟨by rfl, rfl⟩) ?_
    try simp only [List.getElem_toArray, List.getElem_cons_succ, List.getElem_cons_zero, Act.put, List.setIfInBounds_toArray, List.set_cons_zero, List.set_cons_succ]
    refine wpAny_take (i := 16) (v := undef) rfl (by kernel_rfl) (by kernel_rfl) (by kernel_rfl) (fun _ _ _ h => h) (Or.inr ⟨by rfl, rfl⟩) ?_
    try simp only [List.getElem_toArray, List.getElem_cons_succ, List.getElem_cons_zero, Act.put, List.setIfInBounds_toArray, List.set_cons_zero, List.set_cons_succ]
    refine wpAny_take (i := 17) (v := undef) rfl (by kernel_rfl) (by kernel_rfl) (by kernel_rfl) (fun _ _ _ h => h) (Or.inr ⟨by rfl, rfl⟩) ?_
    try simp only [List.getElem_toArray, List.getElem_cons_succ, List.getElem_cons_zero, Act.put, List.setIfInBounds_toArray, List.set_cons_zero, List.set_cons_succ]
    refine wpAny_take (i := 18) (v := undef) rfl (by kernel_rfl) (by kernel_rfl) (by kernel_rfl) (fun _ _ _ h => h) (Or.inr ⟨by rfl, rfl⟩) ?_
    try simp only [List.getElem_toArray, List.getElem_cons_succ, List.getElem_cons_zero, Act.put, List.setIfInBounds_toArray, List.set_cons_zero, List.set_cons_succ]
    refine wpAny_take (i := 19) (v := undef) rfl (by kernel_rfl) (by kernel_rfl) (by kernel_rfl) (fun _ _ _ h => h) (Or.inr ⟨by rfl, rfl⟩) ?_
    try simp only [List.getElem_toArray, List.getElem_cons_succ, List.getElem_cons_zero, Act.put, List.setIfInBounds_toArray, List.set_cons_zero, List.set_cons_succ]
    refine wpAny_take (i := 20) (v := undef) rfl (by kernel_rfl) (by kernel_rfl) (by kernel_rfl) (fun _ _ _ h => h) (Or.inr ⟨by rfl, rfl⟩) ?_
    try simp only [List.getElem_toArray, List.getElem_cons_succ, List.getElem_cons_zero, Act.put, List.setIfInBounds_toArray, List.set_cons_zero, List.set_cons_succ]
    refine wpAny_take (i := 21) (v := undef) rfl (by kernel_rfl) (by kernel_rfl) (by kernel_rfl) (fun _ _ _ h => h) (Or.inr ⟨by rfl, rfl⟩) ?_
    try simp only [List.getElem_toArray, List.getElem_cons_succ, List.getElem_cons_zero, Act.put, List.setIfInBounds_toArray, List.set_cons_zero, List.set_cons_succ]
    refine wpAny_take (i := 22) (v := ?_) rfl (by kernel_rfl) (by kernel_rfl) (by kernel_rfl) (fun _ _ _ h => h) (Or.inl ⟨by rfl, ?_⟩) ?_
    rotate_left
    · intro w; go_simp; try with_reducible rfl
    try simp only [List.getElem_toArray, List.getElem_cons_succ, List.getElem_cons_zero, Act.put, List.setIfInBounds_toArray, List.set_cons_zero, List.set_cons_succ]
    refine wpAny_take (i := 23) (v := ?_) rfl (by kernel_rfl) (by kernel_rfl) (by kernel_rfl) (fun _ _ _ h => h) (Or.inl ⟨by rfl, ?_⟩) ?_
    rotate_left
    · intro w; go_simp; try with_reducible rfl
    try simp only [List.getElem_toArray, List.getElem_cons_succ, List.getElem_cons_zero, Act.put, List.setIfInBounds_toArray, List.set_cons_zero, List.set_cons_succ]
    refine wpAny_done (by kernel_rfl) ?_ _
    go_wp2_with fail
    go_ret
    first | exact ⟨rfl, HB0.out.trans (HH1.out.mono (by omega))⟩ | exact ⟨rfl, HB0.out.trans (HH1.out.drew.mono (by omega))⟩
  by_cases h0 : rows.length = 0
  · have e : ok = true := by rw [← h.out]; simp [bothB, hs, hpl, h0]
    have HS := Lib.hid hs
    have HP := Lib.hid hpl
    have g0 : ((rows.length : Int) == 0) = true := by simp [h0]
    clear h hs hpl h0
    subst e
    have Hhr := Lib.hid hr
    have Hhq := Lib.hid hq
    have Hhp := Lib.hid hp
    have Hhm := Lib.hid hm
    clear hr hq hp hm
    go_enter Try.func95, Try.ntmps95
    go_wp2_with fail
    have x0_0 : (w.alloc (.cells #[.slice a rows.length c, .slice a' zs.length c'] 59)).cell? ⟨w.heap.size, 0, none⟩ = some (.slice a rows.length c) := cell_new _ _ _ (by simp) rfl
    have x0_1 : (w.alloc (.cells #[.slice a rows.length c, .slice a' zs.length c'] 59)).cell? ⟨w.heap.size, 1, none⟩ = some (.slice a' zs.length c') := cell_new _ _ _ (by simp) rfl
    have HB0 := Lib.hid (below_alloc w (.cells #[.slice a rows.length c, .slice a' zs.length c'] 59))
    replace x0_0 := cell_old (.cells #[.slice p ws.length q, .int .i64 b] 86) x0_0
    replace x0_1 := cell_old (.cells #[.slice p ws.length q, .int .i64 b] 86) x0_1
    have x1_0 : ((w.alloc (.cells #[.slice a rows.length c, .slice a' zs.length c'] 59)).alloc (.cells #[.slice p ws.length q, .int .i64 b] 86)).cell? ⟨w.heap.size + 1, 0, none⟩ = some (.slice p ws.length q) := cell_new _ _ _ (by simp) rfl
    have x1_1 : ((w.alloc (.cells #[.slice a rows.length c, .slice a' zs.length c'] 59)).alloc (.cells #[.slice p ws.length q, .int .i64 b] 86)).cell? ⟨w.heap.size + 1, 1, none⟩ = some (.int .i64 b) := cell_new _ _ _ (by simp) rfl
    replace HB0 := Lib.hid (HB0.out.alloc (by simp) (.cells #[.slice p ws.length q, .int .i64 b] 86))
    have s0 : w.heap.size + 2 ≤ ((w.alloc (.cells #[.slice a rows.length c, .slice a' zs.length c'] 59)).alloc (.cells #[.slice p ws.length q, .int .i64 b] 86)).heap.size := by simp
    generalize hw : ((w.alloc (.cells #[.slice a rows.length c, .slice a' zs.length c'] 59)).alloc (.cells #[.slice p ws.length q, .int .i64 b] 86)) = w0 at *
    clear hw
    have n0_0 : w.heap.size < w0.heap.size := by omega
    have n0_1 : w.heap.size + 1 < w0.heap.size := by omega
    have HT0 := Lib.hid (show ∀ wa : World, (wa.cell? ⟨w.heap.size, 0, none⟩ = some (.slice a rows.length c) ∧ wa.cell? ⟨w.heap.size, 1, none⟩ = some (.slice a' zs.length c') ∧ wa.cell? ⟨w.heap.size + 1, 0, none⟩ = some (.slice p ws.length q) ∧ wa.cell? ⟨w.heap.size + 1, 1, none⟩ = some (.int .i64 b) ∧ Below w0.heap.size w0 wa) → Calls Try.prog 124 #[.agg #[.slice a rows.length c, .slice a' zs.length c']] wa fun e w' => e = .returned (.bool true) ∧ w'.cell? ⟨w.heap.size, 0, none⟩ = some (.slice a rows.length c) ∧ w'.cell? ⟨w.heap.size, 1, none⟩ = some (.slice a' zs.length c') ∧ w'.cell? ⟨w.heap.size + 1, 0, none⟩ = some (.slice p ws.length q) ∧ w'.cell? ⟨w.heap.size + 1, 1, none⟩ = some (.int .i64 b) ∧ Below w0.heap.size w0 w' from fun wa hS => by
      have hwz := hS.2.2.2.2.size
      have hB := HB0.out.trans (hS.2.2.2.2.mono (by omega))
      refine (spec_sample a rows c a' zs c' wa (Hhr.out.below hB) (Hhq.out.below hB) hn hz Hhm.out true HS).mono ?_
      rintro e w' ⟨rfl, hb⟩
      exact ⟨rfl, cell_below hb hS.1 (by omega), cell_below hb hS.2.1 (by omega), cell_below hb hS.2.2.1 (by omega), cell_below hb hS.2.2.2.1 (by omega), hS.2.2.2.2.trans (hb.mono (by omega))⟩)
    have HT1 := Lib.hid (show ∀ wa : World, (wa.cell? ⟨w.heap.size, 0, none⟩ = some (.slice a rows.length c) ∧ wa.cell? ⟨w.heap.size, 1, none⟩ = some (.slice a' zs.length c') ∧ wa.cell? ⟨w.heap.size + 1, 0, none⟩ = some (.slice p ws.length q) ∧ wa.cell? ⟨w.heap.size + 1, 1, none⟩ = some (.int .i64 b) ∧ Below w0.heap.size w0 wa) → Calls Try.prog 103 #[.agg #[.slice p ws.length q, .int .i64 b]] wa fun e w' => e = .returned (.bool true) ∧ w'.cell? ⟨w.heap.size, 0, none⟩ = some (.slice a rows.length c) ∧ w'.cell? ⟨w.heap.size, 1, none⟩ = some (.slice a' zs.length c') ∧ w'.cell? ⟨w.heap.size + 1, 0, none⟩ = some (.slice p ws.length q) ∧ w'.cell? ⟨w.heap.size + 1, 1, none⟩ = some (.int .i64 b) ∧ Below w0.heap.size w0 w' from fun wa hS => by
      have hwz := hS.2.2.2.2.size
      have hB := HB0.out.trans (hS.2.2.2.2.mono (by omega))
      refine (spec_plane p ws q b wa (Hhp.out.below hB) hk true HP).mono ?_
      rintro e w' ⟨rfl, hb⟩
      exact ⟨rfl, cell_below hb hS.1 (by omega), cell_below hb hS.2.1 (by omega), cell_below hb hS.2.2.1 (by omega), cell_below hb hS.2.2.2.1 (by omega), hS.2.2.2.2.trans (hb.mono (by omega))⟩)
    refine wp_region_any (by kernel_rfl) ?_
    try (change wpAny _ _ _ _ _ _ _ (World.drew _))
    refine wpAny_ready (rs := [0]) (by kernel_rfl) (by simp) ?_
    refine AllReady.cons rfl (fun K hK => ?_) AllReady.nil
    go_simp
    refine hK _ _ ?_
    clear hK K
    refine wpAny_ready (rs := [1]) (by kernel_rfl) (by simp) ?_
    refine AllReady.cons rfl (fun K hK => ?_) AllReady.nil
    go_simp
    refine Calls.mono (HT0.out _ ?_) ?_
    · first | exact ⟨x0_0, x0_1, x1_0, x1_1, (Below.refl _ _)⟩ | exact ⟨x0_0, x0_1, x1_0, x1_1, (Below.refl _ _).drew⟩
    rintro e v0 ⟨rfl, y0_0, y0_1, y0_2, y0_3, hb0⟩
    have HH0 := Lib.hid hb0
    clear hb0
    refine hK _ _ ?_
    clear hK K
    refine wpAny_take (i := 2) (v := ?_) rfl (by kernel_rfl) (by kernel_rfl) (by kernel_rfl) (fun _ _ _ h => h) (Or.inl ⟨by rfl, ?_⟩) ?_
    rotate_left
    · intro w; go_simp; try with_reducible rfl
    try simp only [List.getElem_toArray, List.getElem_cons_succ, List.getElem_cons_zero, Act.put, List.setIfInBounds_toArray, List.set_cons_zero, List.set_cons_succ]
    refine wpAny_ready (rs := [3]) (by kernel_rfl) (by simp) ?_
    refine AllReady.cons rfl (fun K hK => ?_) AllReady.nil
    go_simp
    refine hK _ _ ?_
    clear hK K
    refine wpAny_ready (rs := [4]) (by kernel_rfl) (by simp) ?_
    refine AllReady.cons rfl (fun K hK => ?_) AllReady.nil
    go_simp
    refine Calls.mono (HT1.out _ ?_) ?_
    · first | exact ⟨y0_0, y0_1, y0_2, y0_3, HH0.out⟩ | exact ⟨y0_0, y0_1, y0_2, y0_3, HH0.out.drew⟩
    rintro e v1 ⟨rfl, y1_0, y1_1, y1_2, y1_3, hb1⟩
    have HH1 := Lib.hid hb1
    clear hb1
    refine hK _ _ ?_
    clear hK K
    refine wpAny_take (i := 5) (v := ?_) rfl (by kernel_rfl) (by kernel_rfl) (by kernel_rfl) (fun _ _ _ h => h) (Or.inl ⟨by rfl, ?_⟩) ?_
    rotate_left
    · intro w; go_simp; try with_reducible rfl
    try simp only [List.getElem_toArray, List.getElem_cons_succ, List.getElem_cons_zero, Act.put, List.setIfInBounds_toArray, List.set_cons_zero, List.set_cons_succ]
    refine wpAny_take (i := 6) (v := ?_) rfl (by kernel_rfl) (by kernel_rfl) (by kernel_rfl) (fun _ _ _ h => h) (Or.inl ⟨by rfl, ?_⟩) ?_
    rotate_left
    · intro w; go_simp; try with_reducible rfl
    try simp only [List.getElem_toArray, List.getElem_cons_succ, List.getElem_cons_zero, Act.put, List.setIfInBounds_toArray, List.set_cons_zero, List.set_cons_succ]
    refine wpAny_take (i := 7) (v := ?_) rfl (by kernel_rfl) (by kernel_rfl) (by kernel_rfl) (fun _ _ _ h => h) (Or.inl ⟨by rfl, ?_⟩) ?_
    rotate_left
    · intro w; go_simp; try with_reducible rfl
    try simp only [List.getElem_toArray, List.getElem_cons_succ, List.getElem_cons_zero, Act.put, List.setIfInBounds_toArray, List.set_cons_zero, List.set_cons_succ]
    refine wpAny_ready (rs := [8]) (by kernel_rfl) (by simp) ?_
    refine AllReady.cons rfl (fun K hK => ?_) AllReady.nil
    go_simp
    refine hK _ _ ?_
    clear hK K
    refine wpAny_take (i := 9) (v := ?_) rfl (by kernel_rfl) (by kernel_rfl) (by kernel_rfl) (fun _ _ _ h => h) (Or.inl ⟨by rfl, ?_⟩) ?_
    rotate_left
    · intro w; go_simp; try with_reducible rfl
    try simp only [List.getElem_toArray, List.getElem_cons_succ, List.getElem_cons_zero, Act.put, List.setIfInBounds_toArray, List.set_cons_zero, List.set_cons_succ]
    refine wpAny_take (i := 10) (v := ?_) rfl (by kernel_rfl) (by kernel_rfl) (by kernel_rfl) (fun _ _ _ h => h) (Or.inl ⟨by rfl, ?_⟩) ?_
    rotate_left
    · intro w; go_simp; try with_reducible rfl
    try simp only [List.getElem_toArray, List.getElem_cons_succ, List.getElem_cons_zero, Act.put, List.setIfInBounds_toArray, List.set_cons_zero, List.set_cons_succ]
    refine wpAny_take (i := 11) (v := ?_) rfl (by kernel_rfl) (by kernel_rfl) (by kernel_rfl) (fun _ _ _ h => h) (Or.inl ⟨by rfl, ?_⟩) ?_
    rotate_left
    · intro w; go_simp; try with_reducible rfl
    try simp only [List.getElem_toArray, List.getElem_cons_succ, List.getElem_cons_zero, Act.put, List.setIfInBounds_toArray, List.set_cons_zero, List.set_cons_succ]
    refine wpAny_take (i := 12) (v := undef) rfl (by kernel_rfl) (by kernel_rfl) (by kernel_rfl) (fun _ _ _ h => h) (Or.inr ⟨by rfl, rfl⟩) ?_
    try simp only [List.getElem_toArray, List.getElem_cons_succ, List.getElem_cons_zero, Act.put, List.setIfInBounds_toArray, List.set_cons_zero, List.set_cons_succ]
    refine wpAny_take (i := 13) (v := undef) rfl (by kernel_rfl) (by kernel_rfl) (by kernel_rfl) (fun _ _ _ h => h) (Or.inr ⟨by rfl, rfl⟩) ?_
    try simp only [List.getElem_toArray, List.getElem_cons_succ, List.getElem_cons_zero, Act.put, List.setIfInBounds_toArray, List.set_cons_zero, List.set_cons_succ]
    refine wpAny_take (i := 14) (v := undef) rfl (by kernel_rfl) (by kernel_rfl) (by kernel_rfl) (fun _ _ _ h => h) (Or.inr ⟨by rfl, rfl⟩) ?_
    try simp only [List.getElem_toArray, List.getElem_cons_succ, List.getElem_cons_zero, Act.put, List.setIfInBounds_toArray, List.set_cons_zero, List.set_cons_succ]
    refine wpAny_take (i := 15) (v := undef) rfl (by kernel_rfl) (by kernel_rfl) (by kernel_rfl) (fun _ _ _ h => h) (Or.inr ⟨by rfl, rfl⟩) ?_
    try simp only [List.getElem_toArray, List.getElem_cons_succ, List.getElem_cons_zero, Act.put, List.setIfInBounds_toArray, List.set_cons_zero, List.set_cons_succ]
    refine wpAny_take (i := 16) (v := undef) rfl (by kernel_rfl) (by kernel_rfl) (by kernel_rfl) (fun _ _ _ h => h) (Or.inr ⟨by rfl, rfl⟩) ?_
    try simp only [List.getElem_toArray, List.getElem_cons_succ, List.getElem_cons_zero, Act.put, List.setIfInBounds_toArray, List.set_cons_zero, List.set_cons_succ]
    refine wpAny_take (i := 17) (v := undef) rfl (by kernel_rfl) (by kernel_rfl) (by kernel_rfl) (fun _ _ _ h => h) (Or.inr ⟨by rfl, rfl⟩) ?_
    try simp only [List.getElem_toArray, List.getElem_cons_succ, List.getElem_cons_zero, Act.put, List.setIfInBounds_toArray, List.set_cons_zero, List.set_cons_succ]
    refine wpAny_take (i := 18) (v := undef) rfl (by kernel_rfl) (by kernel_rfl) (by kernel_rfl) (fun _ _ _ h => h) (Or.inr ⟨by rfl, rfl⟩) ?_
    try simp only [List.getElem_toArray, List.getElem_cons_succ, List.getElem_cons_zero, Act.put, List.setIfInBounds_toArray, List.set_cons_zero, List.set_cons_succ]
    refine wpAny_take (i := 19) (v := undef) rfl (by kernel_rfl) (by kernel_rfl) (by kernel_rfl) (fun _ _ _ h => h) (Or.inr ⟨by rfl, rfl⟩) ?_
    try simp only [List.getElem_toArray, List.getElem_cons_succ, List.getElem_cons_zero, Act.put, List.setIfInBounds_toArray, List.set_cons_zero, List.set_cons_succ]
    refine wpAny_take (i := 20) (v := undef) rfl (by kernel_rfl) (by kernel_rfl) (by kernel_rfl) (fun _ _ _ h => h) (Or.inr ⟨by rfl, rfl⟩) ?_
    try simp only [List.getElem_toArray, List.getElem_cons_succ, List.getElem_cons_zero, Act.put, List.setIfInBounds_toArray, List.set_cons_zero, List.set_cons_succ]
    refine wpAny_take (i := 21) (v := ?_) rfl (by kernel_rfl) (by kernel_rfl) (by kernel_rfl) (fun _ _ _ h => h) (Or.inl ⟨by rfl, ?_⟩) ?_
    rotate_left
    · intro w; go_simp; try with_reducible rfl
    try simp only [List.getElem_toArray, List.getElem_cons_succ, List.getElem_cons_zero, Act.put, List.setIfInBounds_toArray, List.set_cons_zero, List.set_cons_succ]
    refine wpAny_take (i := 22) (v := ?_) rfl (by kernel_rfl) (by kernel_rfl) (by kernel_rfl) (fun _ _ _ h => h) (Or.inl ⟨by rfl, ?_⟩) ?_
    rotate_left
    · intro w; go_simp; try with_reducible rfl
    try simp only [List.getElem_toArray, List.getElem_cons_succ, List.getElem_cons_zero, Act.put, List.setIfInBounds_toArray, List.set_cons_zero, List.set_cons_succ]
    refine wpAny_take (i := 23) (v := ?_) rfl (by kernel_rfl) (by kernel_rfl) (by kernel_rfl) (fun _ _ _ h => h) (Or.inl ⟨by rfl, ?_⟩) ?_
    rotate_left
    · intro w; go_simp; try with_reducible rfl
    try simp only [List.getElem_toArray, List.getElem_cons_succ, List.getElem_cons_zero, Act.put, List.setIfInBounds_toArray, List.set_cons_zero, List.set_cons_succ]
    refine wpAny_done (by kernel_rfl) ?_ _
    go_wp2_with fail
    go_ret
    first | exact ⟨rfl, HB0.out.trans (HH1.out.mono (by omega))⟩ | exact ⟨rfl, HB0.out.trans (HH1.out.drew.mono (by omega))⟩
  by_cases hl : (rows.getD 0 []).length = ws.length
  · have e : ok = true := by rw [← h.out]; simp only [bothB, hs, hpl, hl]; simp
    have g1 : (((rows.getD 0 []).length : Int) == (ws.length : Int)) = true := by simp only [hl]; simp
    have HS := Lib.hid hs
    have HP := Lib.hid hpl
    have g0 : ((rows.length : Int) == 0) = false := by simp; exact fun e => h0 (by rw [e]; rfl)
    have i0 : (0 : Int) < (rows.length : Int) := by omega
    have i1 : 0 < rows.length := by omega
    have hml : (rows.getD 0 []).length ≤ 1048576 := hm _ (getD_mem rows [] 0 i1)
    clear h hs hpl h0 hl
    subst e
    obtain ⟨rb, ro, rp, rq, e0, hb0, hc0, _, _⟩ := hr.at (k := 0) i1
    subst e0
    simp only [Nat.add_zero] at hc0
    have hc0 := cell_old (.cells #[.slice (some ⟨rb, ro, none⟩) rows.length c, .slice a' zs.length c'] 59) hc0
    have hc0 := cell_old (.cells #[.slice p ws.length q, .int .i64 b] 86) hc0
    have HM := Lib.hid hm
    clear hm
    generalize rows.getD 0 [] = r0 at *
    have Hhr := Lib.hid hr
    have Hhq := Lib.hid hq
    have Hhp := Lib.hid hp
    clear hr hq hp
    go_enter Try.func95, Try.ntmps95
    go_wp2_with fail
    have x0_0 : (w.alloc (.cells #[.slice (some ⟨rb, ro, none⟩) rows.length c, .slice a' zs.length c'] 59)).cell? ⟨w.heap.size, 0, none⟩ = some (.slice (some ⟨rb, ro, none⟩) rows.length c) := cell_new _ _ _ (by simp) rfl
    have x0_1 : (w.alloc (.cells #[.slice (some ⟨rb, ro, none⟩) rows.length c, .slice a' zs.length c'] 59)).cell? ⟨w.heap.size, 1, none⟩ = some (.slice a' zs.length c') := cell_new _ _ _ (by simp) rfl
    have HB0 := Lib.hid (below_alloc w (.cells #[.slice (some ⟨rb, ro, none⟩) rows.length c, .slice a' zs.length c'] 59))
    replace x0_0 := cell_old (.cells #[.slice p ws.length q, .int .i64 b] 86) x0_0
    replace x0_1 := cell_old (.cells #[.slice p ws.length q, .int .i64 b] 86) x0_1
    have x1_0 : ((w.alloc (.cells #[.slice (some ⟨rb, ro, none⟩) rows.length c, .slice a' zs.length c'] 59)).alloc (.cells #[.slice p ws.length q, .int .i64 b] 86)).cell? ⟨w.heap.size + 1, 0, none⟩ = some (.slice p ws.length q) := cell_new _ _ _ (by simp) rfl
    have x1_1 : ((w.alloc (.cells #[.slice (some ⟨rb, ro, none⟩) rows.length c, .slice a' zs.length c'] 59)).alloc (.cells #[.slice p ws.length q, .int .i64 b] 86)).cell? ⟨w.heap.size + 1, 1, none⟩ = some (.int .i64 b) := cell_new _ _ _ (by simp) rfl
    replace HB0 := Lib.hid (HB0.out.alloc (by simp) (.cells #[.slice p ws.length q, .int .i64 b] 86))
    have s0 : w.heap.size + 2 ≤ ((w.alloc (.cells #[.slice (some ⟨rb, ro, none⟩) rows.length c, .slice a' zs.length c'] 59)).alloc (.cells #[.slice p ws.length q, .int .i64 b] 86)).heap.size := by simp
    generalize hw : ((w.alloc (.cells #[.slice (some ⟨rb, ro, none⟩) rows.length c, .slice a' zs.length c'] 59)).alloc (.cells #[.slice p ws.length q, .int .i64 b] 86)) = w0 at *
    clear hw
    have n0_0 : w.heap.size < w0.heap.size := by omega
    have n0_1 : w.heap.size + 1 < w0.heap.size := by omega
    have HT0 := Lib.hid (show ∀ wa : World, (wa.cell? ⟨w.heap.size, 0, none⟩ = some (.slice (some ⟨rb, ro, none⟩) rows.length c) ∧ wa.cell? ⟨w.heap.size, 1, none⟩ = some (.slice a' zs.length c') ∧ wa.cell? ⟨w.heap.size + 1, 0, none⟩ = some (.slice p ws.length q) ∧ wa.cell? ⟨w.heap.size + 1, 1, none⟩ = some (.int .i64 b) ∧ wa.cell? ⟨rb, ro, none⟩ = some (.slice rp r0.length rq) ∧ Below w0.heap.size w0 wa) → Calls Try.prog 124 #[.agg #[.slice (some ⟨rb, ro, none⟩) rows.length c, .slice a' zs.length c']] wa fun e w' => e = .returned (.bool true) ∧ w'.cell? ⟨w.heap.size, 0, none⟩ = some (.slice (some ⟨rb, ro, none⟩) rows.length c) ∧ w'.cell? ⟨w.heap.size, 1, none⟩ = some (.slice a' zs.length c') ∧ w'.cell? ⟨w.heap.size + 1, 0, none⟩ = some (.slice p ws.length q) ∧ w'.cell? ⟨w.heap.size + 1, 1, none⟩ = some (.int .i64 b) ∧ w'.cell? ⟨rb, ro, none⟩ = some (.slice rp r0.length rq) ∧ Below w0.heap.size w0 w' from fun wa hS => by
      have hwz := hS.2.2.2.2.2.size
      have hB := HB0.out.trans (hS.2.2.2.2.2.mono (by omega))
      refine (spec_sample _ rows c a' zs c' wa (Hhr.out.below hB) (Hhq.out.below hB) hn hz HM.out true HS).mono ?_
      rintro e w' ⟨rfl, hb⟩
      exact ⟨rfl, cell_below hb hS.1 (by omega), cell_below hb hS.2.1 (by omega), cell_below hb hS.2.2.1 (by omega), cell_below hb hS.2.2.2.1 (by omega), cell_below hb hS.2.2.2.2.1 (by omega), hS.2.2.2.2.2.trans (hb.mono (by omega))⟩)
    have HT1 := Lib.hid (show ∀ wa : World, (wa.cell? ⟨w.heap.size, 0, none⟩ = some (.slice (some ⟨rb, ro, none⟩) rows.length c) ∧ wa.cell? ⟨w.heap.size, 1, none⟩ = some (.slice a' zs.length c') ∧ wa.cell? ⟨w.heap.size + 1, 0, none⟩ = some (.slice p ws.length q) ∧ wa.cell? ⟨w.heap.size + 1, 1, none⟩ = some (.int .i64 b) ∧ wa.cell? ⟨rb, ro, none⟩ = some (.slice rp r0.length rq) ∧ Below w0.heap.size w0 wa) → Calls Try.prog 103 #[.agg #[.slice p ws.length q, .int .i64 b]] wa fun e w' => e = .returned (.bool true) ∧ w'.cell? ⟨w.heap.size, 0, none⟩ = some (.slice (some ⟨rb, ro, none⟩) rows.length c) ∧ w'.cell? ⟨w.heap.size, 1, none⟩ = some (.slice a' zs.length c') ∧ w'.cell? ⟨w.heap.size + 1, 0, none⟩ = some (.slice p ws.length q) ∧ w'.cell? ⟨w.heap.size + 1, 1, none⟩ = some (.int .i64 b) ∧ w'.cell? ⟨rb, ro, none⟩ = some (.slice rp r0.length rq) ∧ Below w0.heap.size w0 w' from fun wa hS => by
      have hwz := hS.2.2.2.2.2.size
      have hB := HB0.out.trans (hS.2.2.2.2.2.mono (by omega))
      refine (spec_plane p ws q b wa (Hhp.out.below hB) hk true HP).mono ?_
      rintro e w' ⟨rfl, hb⟩
      exact ⟨rfl, cell_below hb hS.1 (by omega), cell_below hb hS.2.1 (by omega), cell_below hb hS.2.2.1 (by omega), cell_below hb hS.2.2.2.1 (by omega), cell_below hb hS.2.2.2.2.1 (by omega), hS.2.2.2.2.2.trans (hb.mono (by omega))⟩)
    go_region_held3 (fun w' => w'.cell? ⟨w.heap.size, 0, none⟩ = some (.slice (some ⟨rb, ro, none⟩) rows.length c) ∧ w'.cell? ⟨w.heap.size, 1, none⟩ = some (.slice a' zs.length c') ∧ w'.cell? ⟨w.heap.size + 1, 0, none⟩ = some (.slice p ws.length q) ∧ w'.cell? ⟨w.heap.size + 1, 1, none⟩ = some (.int .i64 b) ∧ w'.cell? ⟨rb, ro, none⟩ = some (.slice rp r0.length rq) ∧ Below w0.heap.size w0 w') (first | assumption | exact ⟨x0_0, x0_1, x1_0, x1_1, hc0, Below.refl _ _⟩ | exact ⟨x0_0, x0_1, x1_0, x1_1, hc0, (Below.refl _ _).drew⟩) (first | (go_at_call 124; refine Calls.mono (HT0.out _ (by assumption)) ?_; rintro e w1 ⟨rfl, hbx⟩) | (go_at_call 103; refine Calls.mono (HT1.out _ (by assumption)) ?_; rintro e w1 ⟨rfl, hbx⟩))
    obtain ⟨_, _, _, _, _, hb⟩ := hbx
    have s1 : w0.heap.size ≤ w1.heap.size := hb.size
    have n1_0 : w.heap.size < w1.heap.size := by omega
    have n1_1 : w.heap.size + 1 < w1.heap.size := by omega
    replace x0_0 := cell_below hb x0_0 (by omega)
    replace x0_1 := cell_below hb x0_1 (by omega)
    replace x1_0 := cell_below hb x1_0 (by omega)
    replace x1_1 := cell_below hb x1_1 (by omega)
    have HB1 := Lib.hid (HB0.out.trans (hb.mono (by omega)))
    clear hb
    clear HT0 HT1
    go_wp2_with fail
    go_ret
    exact ⟨rfl, HB1.out⟩
  · have e : ok = false := by rw [← h.out]; simp only [bothB, hs, hpl, hl, h0]; simp
    have g1 : (((rows.getD 0 []).length : Int) == (ws.length : Int)) = false := by rw [beq_eq_false_iff_ne]; omega
    have HS := Lib.hid hs
    have HP := Lib.hid hpl
    have g0 : ((rows.length : Int) == 0) = false := by simp; exact fun e => h0 (by rw [e]; rfl)
    have i0 : (0 : Int) < (rows.length : Int) := by omega
    have i1 : 0 < rows.length := by omega
    have hml : (rows.getD 0 []).length ≤ 1048576 := hm _ (getD_mem rows [] 0 i1)
    clear h hs hpl h0 hl
    subst e
    obtain ⟨rb, ro, rp, rq, e0, hb0, hc0, _, _⟩ := hr.at (k := 0) i1
    subst e0
    simp only [Nat.add_zero] at hc0
    have hc0 := cell_old (.cells #[.slice (some ⟨rb, ro, none⟩) rows.length c, .slice a' zs.length c'] 59) hc0
    have hc0 := cell_old (.cells #[.slice p ws.length q, .int .i64 b] 86) hc0
    have HM := Lib.hid hm
    clear hm
    generalize rows.getD 0 [] = r0 at *
    have Hhr := Lib.hid hr
    have Hhq := Lib.hid hq
    have Hhp := Lib.hid hp
    clear hr hq hp
    go_enter Try.func95, Try.ntmps95
    go_wp2_with fail
    have x0_0 : (w.alloc (.cells #[.slice (some ⟨rb, ro, none⟩) rows.length c, .slice a' zs.length c'] 59)).cell? ⟨w.heap.size, 0, none⟩ = some (.slice (some ⟨rb, ro, none⟩) rows.length c) := cell_new _ _ _ (by simp) rfl
    have x0_1 : (w.alloc (.cells #[.slice (some ⟨rb, ro, none⟩) rows.length c, .slice a' zs.length c'] 59)).cell? ⟨w.heap.size, 1, none⟩ = some (.slice a' zs.length c') := cell_new _ _ _ (by simp) rfl
    have HB0 := Lib.hid (below_alloc w (.cells #[.slice (some ⟨rb, ro, none⟩) rows.length c, .slice a' zs.length c'] 59))
    replace x0_0 := cell_old (.cells #[.slice p ws.length q, .int .i64 b] 86) x0_0
    replace x0_1 := cell_old (.cells #[.slice p ws.length q, .int .i64 b] 86) x0_1
    have x1_0 : ((w.alloc (.cells #[.slice (some ⟨rb, ro, none⟩) rows.length c, .slice a' zs.length c'] 59)).alloc (.cells #[.slice p ws.length q, .int .i64 b] 86)).cell? ⟨w.heap.size + 1, 0, none⟩ = some (.slice p ws.length q) := cell_new _ _ _ (by simp) rfl
    have x1_1 : ((w.alloc (.cells #[.slice (some ⟨rb, ro, none⟩) rows.length c, .slice a' zs.length c'] 59)).alloc (.cells #[.slice p ws.length q, .int .i64 b] 86)).cell? ⟨w.heap.size + 1, 1, none⟩ = some (.int .i64 b) := cell_new _ _ _ (by simp) rfl
    replace HB0 := Lib.hid (HB0.out.alloc (by simp) (.cells #[.slice p ws.length q, .int .i64 b] 86))
    have s0 : w.heap.size + 2 ≤ ((w.alloc (.cells #[.slice (some ⟨rb, ro, none⟩) rows.length c, .slice a' zs.length c'] 59)).alloc (.cells #[.slice p ws.length q, .int .i64 b] 86)).heap.size := by simp
    generalize hw : ((w.alloc (.cells #[.slice (some ⟨rb, ro, none⟩) rows.length c, .slice a' zs.length c'] 59)).alloc (.cells #[.slice p ws.length q, .int .i64 b] 86)) = w0 at *
    clear hw
    have n0_0 : w.heap.size < w0.heap.size := by omega
    have n0_1 : w.heap.size + 1 < w0.heap.size := by omega
    have HT0 := Lib.hid (show ∀ wa : World, (wa.cell? ⟨w.heap.size, 0, none⟩ = some (.slice (some ⟨rb, ro, none⟩) rows.length c) ∧ wa.cell? ⟨w.heap.size, 1, none⟩ = some (.slice a' zs.length c') ∧ wa.cell? ⟨w.heap.size + 1, 0, none⟩ = some (.slice p ws.length q) ∧ wa.cell? ⟨w.heap.size + 1, 1, none⟩ = some (.int .i64 b) ∧ wa.cell? ⟨rb, ro, none⟩ = some (.slice rp r0.length rq) ∧ Below w0.heap.size w0 wa) → Calls Try.prog 124 #[.agg #[.slice (some ⟨rb, ro, none⟩) rows.length c, .slice a' zs.length c']] wa fun e w' => e = .returned (.bool true) ∧ w'.cell? ⟨w.heap.size, 0, none⟩ = some (.slice (some ⟨rb, ro, none⟩) rows.length c) ∧ w'.cell? ⟨w.heap.size, 1, none⟩ = some (.slice a' zs.length c') ∧ w'.cell? ⟨w.heap.size + 1, 0, none⟩ = some (.slice p ws.length q) ∧ w'.cell? ⟨w.heap.size + 1, 1, none⟩ = some (.int .i64 b) ∧ w'.cell? ⟨rb, ro, none⟩ = some (.slice rp r0.length rq) ∧ Below w0.heap.size w0 w' from fun wa hS => by
      have hwz := hS.2.2.2.2.2.size
      have hB := HB0.out.trans (hS.2.2.2.2.2.mono (by omega))
      refine (spec_sample _ rows c a' zs c' wa (Hhr.out.below hB) (Hhq.out.below hB) hn hz HM.out true HS).mono ?_
      rintro e w' ⟨rfl, hb⟩
      exact ⟨rfl, cell_below hb hS.1 (by omega), cell_below hb hS.2.1 (by omega), cell_below hb hS.2.2.1 (by omega), cell_below hb hS.2.2.2.1 (by omega), cell_below hb hS.2.2.2.2.1 (by omega), hS.2.2.2.2.2.trans (hb.mono (by omega))⟩)
    have HT1 := Lib.hid (show ∀ wa : World, (wa.cell? ⟨w.heap.size, 0, none⟩ = some (.slice (some ⟨rb, ro, none⟩) rows.length c) ∧ wa.cell? ⟨w.heap.size, 1, none⟩ = some (.slice a' zs.length c') ∧ wa.cell? ⟨w.heap.size + 1, 0, none⟩ = some (.slice p ws.length q) ∧ wa.cell? ⟨w.heap.size + 1, 1, none⟩ = some (.int .i64 b) ∧ wa.cell? ⟨rb, ro, none⟩ = some (.slice rp r0.length rq) ∧ Below w0.heap.size w0 wa) → Calls Try.prog 103 #[.agg #[.slice p ws.length q, .int .i64 b]] wa fun e w' => e = .returned (.bool true) ∧ w'.cell? ⟨w.heap.size, 0, none⟩ = some (.slice (some ⟨rb, ro, none⟩) rows.length c) ∧ w'.cell? ⟨w.heap.size, 1, none⟩ = some (.slice a' zs.length c') ∧ w'.cell? ⟨w.heap.size + 1, 0, none⟩ = some (.slice p ws.length q) ∧ w'.cell? ⟨w.heap.size + 1, 1, none⟩ = some (.int .i64 b) ∧ w'.cell? ⟨rb, ro, none⟩ = some (.slice rp r0.length rq) ∧ Below w0.heap.size w0 w' from fun wa hS => by
      have hwz := hS.2.2.2.2.2.size
      have hB := HB0.out.trans (hS.2.2.2.2.2.mono (by omega))
      refine (spec_plane p ws q b wa (Hhp.out.below hB) hk true HP).mono ?_
      rintro e w' ⟨rfl, hb⟩
      exact ⟨rfl, cell_below hb hS.1 (by omega), cell_below hb hS.2.1 (by omega), cell_below hb hS.2.2.1 (by omega), cell_below hb hS.2.2.2.1 (by omega), cell_below hb hS.2.2.2.2.1 (by omega), hS.2.2.2.2.2.trans (hb.mono (by omega))⟩)
    go_region_held3 (fun w' => w'.cell? ⟨w.heap.size, 0, none⟩ = some (.slice (some ⟨rb, ro, none⟩) rows.length c) ∧ w'.cell? ⟨w.heap.size, 1, none⟩ = some (.slice a' zs.length c') ∧ w'.cell? ⟨w.heap.size + 1, 0, none⟩ = some (.slice p ws.length q) ∧ w'.cell? ⟨w.heap.size + 1, 1, none⟩ = some (.int .i64 b) ∧ w'.cell? ⟨rb, ro, none⟩ = some (.slice rp r0.length rq) ∧ Below w0.heap.size w0 w') (first | assumption | exact ⟨x0_0, x0_1, x1_0, x1_1, hc0, Below.refl _ _⟩ | exact ⟨x0_0, x0_1, x1_0, x1_1, hc0, (Below.refl _ _).drew⟩) (first | (go_at_call 124; refine Calls.mono (HT0.out _ (by assumption)) ?_; rintro e w1 ⟨rfl, hbx⟩) | (go_at_call 103; refine Calls.mono (HT1.out _ (by assumption)) ?_; rintro e w1 ⟨rfl, hbx⟩))
    obtain ⟨_, _, _, _, _, hb⟩ := hbx
    have s1 : w0.heap.size ≤ w1.heap.size := hb.size
    have n1_0 : w.heap.size < w1.heap.size := by omega
    have n1_1 : w.heap.size + 1 < w1.heap.size := by omega
    replace x0_0 := cell_below hb x0_0 (by omega)
    replace x0_1 := cell_below hb x0_1 (by omega)
    replace x1_0 := cell_below hb x1_0 (by omega)
    replace x1_1 := cell_below hb x1_1 (by omega)
    have HB1 := Lib.hid (HB0.out.trans (hb.mono (by omega)))
    clear hb
    clear HT0 HT1
    go_wp2_with fail
    go_ret
    exact ⟨rfl, HB1.out⟩
end Go.Proofs.Ytoephhhofkmgjaa.both
