/- The walks of a step of a perceptron: the model's l3Step, the program's addedTimes. -/
import Derived.Test.YtocbklmkphgkeaaStepP
import Derived.Test.YtocbklmkphgkeaaDots
import Derived.Test.YtocbklmkphgkeaaOwn1
import Derived.Test.YtocbklmkphgkeaaCopy
import Derived.Test.YtocbklmkphgkeaaSetCell
import Derived.Test.YtocbklmkphgkeaaPlaneFns
import Derived.Deep.RegionHeld3
import Derived.Deep.DrawnRows
import Derived.StillTailTactics
namespace Go.Proofs.Ytocbklmkphgkeaa.step
open Go.RowKit own own1 pp nums dots fill
set_option linter.unusedVariables false
set_option linter.unusedSimpArgs false
attribute [local go_sem ↓] Go.wp_at_zero Go.wp_at_succ

theorem Fit.small {ws xs : List Int} {b t : Int} (h : Fit ws xs b t) : Small ws xs := small_of h.wbd h.xbd (by decide) (by rw [h.len]; exact Nat.le_refl _)
theorem form {lo hi : Nat} {w : World} {v : Value} {zs : List Int} (h : OwnI lo hi w v zs) (h0 : 0 < zs.length) : ∃ g cap, v = .slice (some ⟨g, 0, none⟩) zs.length cap ∧ lo ≤ g ∧ g < hi := by
  rcases h.1.2 with ⟨_, e⟩ | ⟨g, cap, cur, e, hl, _⟩
  · omega
  · exact ⟨g, cap, e, hl, h.2 g (by rw [e]; rfl)⟩
set_option maxRecDepth 100000 in
set_option maxHeartbeats 4000000 in
theorem spec_same (p : Option Addr) (ws : List Int) (q : Nat) (b : Int) (a : Option Addr) (xs : List Int) (c : Nat) (y : Int) (w : World) (hp : ints.Reads .i64 w p ws) (hx : ints.Reads .i64 w a xs) (hF : Fit ws xs b y) (hs : side ws b xs = y) :
    Calls Try.prog 106 #[.agg #[.slice p ws.length q, .int .i64 b], .slice a xs.length c, .int .i64 y] w (fun e w' => e = .returned (.tuple #[.agg #[.slice p ws.length q, .int .i64 b], .bool false]) ∧ Below w.heap.size w w') := by
  have HF := Lib.hid hF
  have hpos := hF.pos
  have hle := hF.le
  have HLn := Lib.hid hF.len
  have HS := Lib.hid hF.small
  have HBb := Lib.hid hF.bbd
  have HBt := Lib.hid hF.tbd
  clear hF
  have g1 : (side ws b xs == y) = true := by rw [hs]; exact beq_self_eq_true y
  clear hs
  have Hhp := Lib.hid hp
  have Hhx := Lib.hid hx
  clear hp hx
  go_enter Try.func106, Try.ntmps106
  go_wp2_with fail
  have x0_0 : (w.alloc (.cells #[.slice p ws.length q, .int .i64 b] 46)).cell? ⟨w.heap.size, 0, none⟩ = some (.slice p ws.length q) := cell_new _ _ _ (by simp) rfl
  have x0_1 : (w.alloc (.cells #[.slice p ws.length q, .int .i64 b] 46)).cell? ⟨w.heap.size, 1, none⟩ = some (.int .i64 b) := cell_new _ _ _ (by simp) rfl
  have HB0 := Lib.hid (below_alloc w (.cells #[.slice p ws.length q, .int .i64 b] 46))
  replace x0_0 := cell_old (.cells #[.slice none 0 0, .int .i64 0] 46) x0_0
  replace x0_1 := cell_old (.cells #[.slice none 0 0, .int .i64 0] 46) x0_1
  have x1_0 : ((w.alloc (.cells #[.slice p ws.length q, .int .i64 b] 46)).alloc (.cells #[.slice none 0 0, .int .i64 0] 46)).cell? ⟨w.heap.size + 1, 0, none⟩ = some (.slice none 0 0) := cell_new _ _ _ (by simp) rfl
  have x1_1 : ((w.alloc (.cells #[.slice p ws.length q, .int .i64 b] 46)).alloc (.cells #[.slice none 0 0, .int .i64 0] 46)).cell? ⟨w.heap.size + 1, 1, none⟩ = some (.int .i64 0) := cell_new _ _ _ (by simp) rfl
  have f1_0 : ((w.alloc (.cells #[.slice p ws.length q, .int .i64 b] 46)).alloc (.cells #[.slice none 0 0, .int .i64 0] 46)).frozen? ⟨w.heap.size + 1, 0, none⟩ = false := fro_new _ _ _ (by simp)
  have f1_1 : ((w.alloc (.cells #[.slice p ws.length q, .int .i64 b] 46)).alloc (.cells #[.slice none 0 0, .int .i64 0] 46)).frozen? ⟨w.heap.size + 1, 1, none⟩ = false := fro_new _ _ _ (by simp)
  replace HB0 := Lib.hid (HB0.out.alloc (by simp) (.cells #[.slice none 0 0, .int .i64 0] 46))
  have s0 : w.heap.size + 2 ≤ ((w.alloc (.cells #[.slice p ws.length q, .int .i64 b] 46)).alloc (.cells #[.slice none 0 0, .int .i64 0] 46)).heap.size := by simp
  generalize hw : ((w.alloc (.cells #[.slice p ws.length q, .int .i64 b] 46)).alloc (.cells #[.slice none 0 0, .int .i64 0] 46)) = w0 at *
  clear hw
  have n0_0 : w.heap.size < w0.heap.size := by omega
  have n0_1 : w.heap.size + 1 < w0.heap.size := by omega
  refine (spec_side p ws q b a xs c _ (Hhp.out.below HB0.out) (Hhx.out.below HB0.out) (by omega) (by have := HLn.out; omega) (by have := HLn.out; omega) HS.out).mono ?_
  rintro e w1 ⟨rfl, hb⟩
  have s1 : w0.heap.size ≤ w1.heap.size := hb.size
  have n1_0 : w.heap.size < w1.heap.size := by omega
  have n1_1 : w.heap.size + 1 < w1.heap.size := by omega
  replace x0_0 := cell_below hb x0_0 (by omega)
  replace x0_1 := cell_below hb x0_1 (by omega)
  replace x1_0 := cell_below hb x1_0 (by omega)
  replace x1_1 := cell_below hb x1_1 (by omega)
  replace f1_0 := fro_below hb f1_0 (by omega)
  replace f1_1 := fro_below hb f1_1 (by omega)
  have HB1 := Lib.hid (HB0.out.trans (hb.mono (by omega)))
  clear hb
  go_wp2_with fail
  refine bodyPost_ret (v := .tuple #[.agg #[.slice p ws.length q, .int .i64 b], .bool false]) (by simp [results, Try.results106, go_sem, x1_0, x1_1]) rfl ⟨rfl, ?_⟩
  exact (HB1.out.setCell (by simp) _).setCell (by simp) _
set_option maxRecDepth 100000 in
set_option maxHeartbeats 4000000 in
theorem spec_turned (p : Option Addr) (ws : List Int) (q : Nat) (b : Int) (a : Option Addr) (xs : List Int) (c : Nat) (y : Int) (w : World) (hp : ints.Reads .i64 w p ws) (hx : ints.Reads .i64 w a xs) (hF : Fit ws xs b y) (hs : side ws b xs ≠ y) :
    Calls Try.prog 106 #[.agg #[.slice p ws.length q, .int .i64 b], .slice a xs.length c, .int .i64 y] w (fun e w' => ∃ v, e = .returned (.tuple #[.agg #[v, .int .i64 (b - y)], .bool true]) ∧ OwnI w.heap.size w'.heap.size w' v (added ws xs y) ∧ Below w.heap.size w w') := by
  have HF := Lib.hid hF
  have hpos := hF.pos
  have hle := hF.le
  have HLn := Lib.hid hF.len
  have HS := Lib.hid hF.small
  have HBb := Lib.hid hF.bbd
  have HBt := Lib.hid hF.tbd
  clear hF
  have g1 : (side ws b xs == y) = false := beq_eq_false_iff_ne.2 hs
  clear hs
  have Hhp := Lib.hid hp
  have Hhx := Lib.hid hx
  clear hp hx
  go_enter Try.func106, Try.ntmps106
  go_wp2_with fail
  have x0_0 : (w.alloc (.cells #[.slice p ws.length q, .int .i64 b] 46)).cell? ⟨w.heap.size, 0, none⟩ = some (.slice p ws.length q) := cell_new _ _ _ (by simp) rfl
  have x0_1 : (w.alloc (.cells #[.slice p ws.length q, .int .i64 b] 46)).cell? ⟨w.heap.size, 1, none⟩ = some (.int .i64 b) := cell_new _ _ _ (by simp) rfl
  have HB0 := Lib.hid (below_alloc w (.cells #[.slice p ws.length q, .int .i64 b] 46))
  replace x0_0 := cell_old (.cells #[.slice none 0 0, .int .i64 0] 46) x0_0
  replace x0_1 := cell_old (.cells #[.slice none 0 0, .int .i64 0] 46) x0_1
  have x1_0 : ((w.alloc (.cells #[.slice p ws.length q, .int .i64 b] 46)).alloc (.cells #[.slice none 0 0, .int .i64 0] 46)).cell? ⟨w.heap.size + 1, 0, none⟩ = some (.slice none 0 0) := cell_new _ _ _ (by simp) rfl
  have x1_1 : ((w.alloc (.cells #[.slice p ws.length q, .int .i64 b] 46)).alloc (.cells #[.slice none 0 0, .int .i64 0] 46)).cell? ⟨w.heap.size + 1, 1, none⟩ = some (.int .i64 0) := cell_new _ _ _ (by simp) rfl
  have f1_0 : ((w.alloc (.cells #[.slice p ws.length q, .int .i64 b] 46)).alloc (.cells #[.slice none 0 0, .int .i64 0] 46)).frozen? ⟨w.heap.size + 1, 0, none⟩ = false := fro_new _ _ _ (by simp)
  have f1_1 : ((w.alloc (.cells #[.slice p ws.length q, .int .i64 b] 46)).alloc (.cells #[.slice none 0 0, .int .i64 0] 46)).frozen? ⟨w.heap.size + 1, 1, none⟩ = false := fro_new _ _ _ (by simp)
  replace HB0 := Lib.hid (HB0.out.alloc (by simp) (.cells #[.slice none 0 0, .int .i64 0] 46))
  have s0 : w.heap.size + 2 ≤ ((w.alloc (.cells #[.slice p ws.length q, .int .i64 b] 46)).alloc (.cells #[.slice none 0 0, .int .i64 0] 46)).heap.size := by simp
  generalize hw : ((w.alloc (.cells #[.slice p ws.length q, .int .i64 b] 46)).alloc (.cells #[.slice none 0 0, .int .i64 0] 46)) = w0 at *
  clear hw
  have n0_0 : w.heap.size < w0.heap.size := by omega
  have n0_1 : w.heap.size + 1 < w0.heap.size := by omega
  refine (spec_side p ws q b a xs c _ (Hhp.out.below HB0.out) (Hhx.out.below HB0.out) (by omega) (by have := HLn.out; omega) (by have := HLn.out; omega) HS.out).mono ?_
  rintro e w1 ⟨rfl, hb⟩
  have s1 : w0.heap.size ≤ w1.heap.size := hb.size
  have n1_0 : w.heap.size < w1.heap.size := by omega
  have n1_1 : w.heap.size + 1 < w1.heap.size := by omega
  replace x0_0 := cell_below hb x0_0 (by omega)
  replace x0_1 := cell_below hb x0_1 (by omega)
  replace x1_0 := cell_below hb x1_0 (by omega)
  replace x1_1 := cell_below hb x1_1 (by omega)
  replace f1_0 := fro_below hb f1_0 (by omega)
  replace f1_1 := fro_below hb f1_1 (by omega)
  have HB1 := Lib.hid (HB0.out.trans (hb.mono (by omega)))
  clear hb
  go_wp2_with fail
  have e1 : IntKind.i64.wrap (b - y) = b - y := IntWalk.i64_in _ (by have := HBb.out; have := HBt.out; omega)
  have HXB := Lib.hid (show w1.cell? ⟨w.heap.size + 1, 0, none⟩ = some (.slice none 0 0) ∧ w1.cell? ⟨w.heap.size + 1, 1, none⟩ = some (.int .i64 0) ∧ w1.frozen? ⟨w.heap.size + 1, 0, none⟩ = false ∧ w1.frozen? ⟨w.heap.size + 1, 1, none⟩ = false from ⟨x1_0, x1_1, f1_0, f1_1⟩)
  clear x1_0 x1_1 f1_0 f1_1
  have HT := Lib.hid (show ∀ wa : World, (wa.cell? ⟨w.heap.size, 0, none⟩ = some (.slice p ws.length q) ∧ wa.cell? ⟨w.heap.size, 1, none⟩ = some (.int .i64 b) ∧ w1.heap.size ≤ wa.heap.size ∧ Below w1.heap.size w1 wa) → Calls Try.prog 72 #[.slice p ws.length q] wa (fun e w' => ∃ (g cap : Nat), e = .returned (.slice (some ⟨g, 0, none⟩) ws.length cap) ∧ (wa.heap.size ≤ g ∧ g < w'.heap.size) ∧ w'.ownsRow w1.heap.size 3 1 (.slice (some ⟨g, 0, none⟩) ws.length cap) ws.length (ws.map (Value.int .i64)) ∧ Below wa.heap.size wa w' ∧ (w'.cell? ⟨w.heap.size, 0, none⟩ = some (.slice p ws.length q) ∧ w'.cell? ⟨w.heap.size, 1, none⟩ = some (.int .i64 b) ∧ w1.heap.size ≤ w'.heap.size ∧ Below w1.heap.size w1 w')) from fun wa hS => by
    have hwz := hS.2.2.1
    have hB := hS.2.2.2
    refine (own1.spec_own p ws q wa (Hhp.out.below (HB1.out.trans (hB.mono (by omega)))) (by omega) (by omega)).mono ?_
    rintro e w' ⟨v, rfl, ho, hb⟩
    obtain ⟨g, cap, rfl, hg1, hg2⟩ := form ho (by omega)
    exact ⟨g, cap, rfl, ⟨hg1, hg2⟩, (ho.mono hwz (Nat.le_refl _)).1, hb, cell_below hb hS.1 (by omega), cell_below hb hS.2.1 (by omega), Nat.le_trans hwz hb.size, hB.trans (hb.mono (by omega))⟩)
  refine wp_region_noPanic ?_
  refine wp_region_held_drew (S := fun w' => w'.cell? ⟨w.heap.size, 0, none⟩ = some (.slice p ws.length q) ∧ w'.cell? ⟨w.heap.size, 1, none⟩ = some (.int .i64 b) ∧ w1.heap.size ≤ w'.heap.size ∧ Below w1.heap.size w1 w') (by kernel_rfl) ?_ (fun hHeld => ?_)
  · exact ⟨x0_0, x0_1, Nat.le_refl _, (Below.refl _ _).drew⟩
  refine wpAnyH_take (i := 0) (v := ?_) rfl (by kernel_rfl) (by kernel_rfl) (by kernel_rfl) (fun _ _ _ h => h) (Or.inl ⟨by rfl, ?_⟩) (by assumption) ?_
  rotate_left
  · intro w9 hSw; (try dsimp only at hSw); go_simp; try with_reducible rfl
  try simp only [List.getElem_toArray, List.getElem_cons_succ, List.getElem_cons_zero, Act.put, List.setIfInBounds_toArray, List.set_cons_zero, List.set_cons_succ]
  refine wpAnyH_take (i := 1) (v := ?_) rfl (by kernel_rfl) (by kernel_rfl) (by kernel_rfl) (fun _ _ _ h => h) (Or.inl ⟨by rfl, ?_⟩) (by assumption) ?_
  rotate_left
  · intro w9 hSw; (try dsimp only at hSw); go_simp; try with_reducible rfl
  try simp only [List.getElem_toArray, List.getElem_cons_succ, List.getElem_cons_zero, Act.put, List.setIfInBounds_toArray, List.set_cons_zero, List.set_cons_succ]
  refine wpAnyH_take (i := 3) (v := ?_) rfl (by kernel_rfl) (by kernel_rfl) (by kernel_rfl) (fun _ _ _ h => h) (Or.inl ⟨by rfl, ?_⟩) (by assumption) ?_
  rotate_left
  · intro w9 hSw; (try dsimp only at hSw); go_simp; try with_reducible rfl
  try simp only [List.getElem_toArray, List.getElem_cons_succ, List.getElem_cons_zero, Act.put, List.setIfInBounds_toArray, List.set_cons_zero, List.set_cons_succ]
  refine wpAnyH_take (i := 4) (v := ?_) rfl (by kernel_rfl) (by kernel_rfl) (by kernel_rfl) (fun _ _ _ h => h) (Or.inl ⟨by rfl, ?_⟩) (by assumption) ?_
  rotate_left
  · intro w9 hSw; (try dsimp only at hSw); go_simp; try with_reducible rfl
  try simp only [List.getElem_toArray, List.getElem_cons_succ, List.getElem_cons_zero, Act.put, List.setIfInBounds_toArray, List.set_cons_zero, List.set_cons_succ]
  refine wpAnyH_take (i := 5) (v := ?_) rfl (by kernel_rfl) (by kernel_rfl) (by kernel_rfl) (fun _ _ _ h => h) (Or.inl ⟨by rfl, ?_⟩) (by assumption) ?_
  rotate_left
  · intro w9 hSw; (try dsimp only at hSw); go_simp; try with_reducible rfl
  try simp only [List.getElem_toArray, List.getElem_cons_succ, List.getElem_cons_zero, Act.put, List.setIfInBounds_toArray, List.set_cons_zero, List.set_cons_succ]
  refine wpAnyH_take (i := 6) (v := ?_) rfl (by kernel_rfl) (by kernel_rfl) (by kernel_rfl) (fun _ _ _ h => h) (Or.inl ⟨by rfl, ?_⟩) (by assumption) ?_
  rotate_left
  · intro w9 hSw; (try dsimp only at hSw); go_simp; try with_reducible rfl
  try simp only [List.getElem_toArray, List.getElem_cons_succ, List.getElem_cons_zero, Act.put, List.setIfInBounds_toArray, List.set_cons_zero, List.set_cons_succ]
  refine wpAnyH_ready (rs := [2, 8]) (by kernel_rfl) (by simp) ?_
  refine AllReadyH.cons rfl (fun K hK => ?_) ?_
  · go_simp
    refine Calls.mono (HT.out _ ?_) ?_
    · exact hHeld
    rintro e v0 ⟨g, cap, rfl, hg, ho, hbb, hbx⟩
    refine hK.out _ _ ?_ (fun hHeld => ?_)
    · exact hbx
    clear hK K
    try simp only [List.getElem_toArray, List.getElem_cons_succ, List.getElem_cons_zero, Act.put, List.setIfInBounds_toArray, List.set_cons_zero, List.set_cons_succ]
    refine wpAnyH_take (i := 7) (v := ?_) rfl (by kernel_rfl) (by kernel_rfl) (by kernel_rfl) (fun _ _ _ h => h) (Or.inl ⟨by rfl, ?_⟩) (by assumption) ?_
    rotate_left
    · intro w9 hSw; (try dsimp only at hSw); go_simp; try with_reducible rfl
    try simp only [List.getElem_toArray, List.getElem_cons_succ, List.getElem_cons_zero, Act.put, List.setIfInBounds_toArray, List.set_cons_zero, List.set_cons_succ]
    refine wpAnyH_ready (rs := [8]) (by kernel_rfl) (by simp) ?_
    refine AllReadyH.cons rfl (fun K hK => ?_) ?_
    · go_simp
      refine hK.out _ _ ?_ (fun hHeld => ?_)
      · exact ⟨cell_old _ hbx.1, cell_old _ hbx.2.1, Nat.le_trans hbx.2.2.1 (by simp), hbx.2.2.2.alloc hbx.2.2.1 _⟩
      clear hK K
      try simp only [List.getElem_toArray, List.getElem_cons_succ, List.getElem_cons_zero, Act.put, List.setIfInBounds_toArray, List.set_cons_zero, List.set_cons_succ]
      have y0 : (v0.alloc (.cells #[.slice none 0 0, .int .i64 0] 46)).cell? ⟨v0.heap.size, 0, none⟩ = some (.slice none 0 0) := cell_new _ _ _ rfl rfl
      have y1 : (v0.alloc (.cells #[.slice none 0 0, .int .i64 0] 46)).cell? ⟨v0.heap.size, 1, none⟩ = some (.int .i64 0) := cell_new _ _ _ rfl rfl
      have z0 : (v0.alloc (.cells #[.slice none 0 0, .int .i64 0] 46)).frozen? ⟨v0.heap.size, 0, none⟩ = false := fro_new _ _ _ rfl
      have z1 : (v0.alloc (.cells #[.slice none 0 0, .int .i64 0] 46)).frozen? ⟨v0.heap.size, 1, none⟩ = false := fro_new _ _ _ rfl
      have hb9 : Below w1.heap.size w1 (v0.alloc (.cells #[.slice none 0 0, .int .i64 0] 46)) := hHeld.2.2.2
      have ho9 := ho.alloc (.cells #[.slice none 0 0, .int .i64 0] 46)
      have hg9 : w1.heap.size ≤ g ∧ g < (v0.alloc (.cells #[.slice none 0 0, .int .i64 0] 46)).heap.size ∧ g ≠ v0.heap.size ∧ w1.heap.size ≤ v0.heap.size ∧ v0.heap.size < (v0.alloc (.cells #[.slice none 0 0, .int .i64 0] 46)).heap.size := by have h1 := hbx.2.2.1; have h2 : w1.drew.heap.size = w1.heap.size := rfl; simp; omega
      refine wpAnyH_ready (rs := [9]) (by kernel_rfl) (by simp) ?_
      refine AllReadyH.cons rfl (fun K hK => ?_) ?_
      · go_simp
        refine hK.out _ _ ?_ (fun hHeld => ?_)
        · exact ⟨cell_old _ hbx.1, cell_old _ hbx.2.1, Nat.le_trans hbx.2.2.1 (by simp), hbx.2.2.2.alloc hbx.2.2.1 _⟩
        clear hK K
        try simp only [List.getElem_toArray, List.getElem_cons_succ, List.getElem_cons_zero, Act.put, List.setIfInBounds_toArray, List.set_cons_zero, List.set_cons_succ]
        refine wpAnyH_done (by kernel_rfl) ?_ _
        refine NoPanic.normal ?_
        have HX := Lib.hid (show ((v0.alloc (.cells #[(.slice (some ⟨g, 0, none⟩) ws.length cap), (.int .i64 (b - y))] 46))).cell? ⟨v0.heap.size, 0, none⟩ = some (.slice (some ⟨g, 0, none⟩) ws.length cap) ∧ ((v0.alloc (.cells #[(.slice (some ⟨g, 0, none⟩) ws.length cap), (.int .i64 (b - y))] 46))).cell? ⟨v0.heap.size, 1, none⟩ = some (.int .i64 (b - y)) from ⟨cell_new _ _ _ rfl rfl, cell_new _ _ _ rfl rfl⟩)
        have HO := Lib.hid (show ((v0.alloc (.cells #[(.slice (some ⟨g, 0, none⟩) ws.length cap), (.int .i64 (b - y))] 46))).ownsRow w1.heap.size 3 1 (.slice (some ⟨g, 0, none⟩) ws.length cap) ws.length (ws.map (Value.int .i64)) from ho.alloc _)
        have HB5 := Lib.hid hHeld.2.2.2
        have hg5 : w1.heap.size ≤ g ∧ g ≠ v0.heap.size ∧ w1.heap.size ≤ v0.heap.size := ⟨hg9.1, hg9.2.2.1, hg9.2.2.2.1⟩
        clear hHeld hg9 ho9 hb9 y0 y1 z0 z1 hbx hbb ho hg
        generalize hw5 : ((v0.alloc (.cells #[(.slice (some ⟨g, 0, none⟩) ws.length cap), (.int .i64 (b - y))] 46))) = v5 at *
        clear hw5 HT
        go_wp2_with fail
        go_loopw [9] (fun i wr => ∃ k : Nat, k ≤ ws.length ∧ i = .int .i64 k ∧ wr.ownsRow w1.heap.size 3 1 (.slice (some ⟨g, 0, none⟩) ws.length cap) ws.length ((pf (addAt ws xs y) ws k).map (Value.int .i64)) ∧ (wr.cell? ⟨v0.heap.size, 0, none⟩ = some (.slice (some ⟨g, 0, none⟩) ws.length cap) ∧ wr.cell? ⟨v0.heap.size, 1, none⟩ = some (.int .i64 (b - y))) ∧ Below w1.heap.size w1 wr) (fun i _ => ws.length - (intOf i).toNat)
        case atStart => exact ⟨0, Nat.zero_le _, rfl, by rw [pf_zero]; exact HO.out, HX.out, HB5.out⟩
        case round =>
          obtain ⟨k, hk, rfl, hown, ⟨c0, c1⟩, hbel⟩ := hrel
          have HBl := Lib.hid hbel
          by_cases hlt : k < ws.length
          · obtain ⟨xb, xo, hxa, hxb, hxc⟩ := (Hhx.out.below HB1.out).at (k := k) (by have := HLn.out; omega)
            subst hxa
            replace hxc := cell_below hbel hxc (by omega)
            have hcell := pf_cell hown hlt
            have hfro := hown.frozenAt k
            have HST := Lib.hid (pf_store hown hlt (ws.getD k 0 + y * xs.getD k 0) rfl)
            have hbd := HF.out.at k hlt
            have i1 : (0 : Int) ≤ (k : Int) := by omega
            have i2 : (k : Int) < (xs.length : Int) := by have := HLn.out; omega
            have i3 : (k : Int) < (ws.length : Int) := by omega
            clear hown hbel
            generalize ws.getD k 0 = s at *
            generalize xs.getD k 0 = x at *
            have e2 : IntKind.i64.wrap (y * x) = y * x := IntWalk.i64_in _ (by omega)
            have e3 : IntKind.i64.wrap (s + y * x) = s + y * x := IntWalk.i64_in _ (by omega)
            clear hbd
            go_wp2_with fail
            go_still_tail 15, (by kernel_rfl)
            go_wp2_with fail
            go_roundw
            case rel => exact ⟨k + 1, by omega, by go_num, HST.out, ⟨cell_set c0 (by simp; omega) _, cell_set c1 (by simp; omega) _⟩, (HBl.out.setCell (by simp; omega) _).drew⟩
            case measure => simp [intOf]; omega
          · obtain rfl : k = ws.length := by omega
            rw [pf_added] at hown
            have HO2 := Lib.hid hown
            have i2 : ¬ (ws.length : Int) < (xs.length : Int) := by have := HLn.out; omega
            have r0 := cell_below hbel HXB.out.1 (by omega)
            have r1 := cell_below hbel HXB.out.2.1 (by omega)
            have r2 := fro_below hbel HXB.out.2.2.1 (by omega)
            have r3 := fro_below hbel HXB.out.2.2.2 (by omega)
            have hsz := hbel.size
            clear hown hbel
            go_wp2_with fail
            refine bodyPost_ret (v := .tuple #[.agg #[.slice (some ⟨g, 0, none⟩) ws.length cap, .int .i64 (b - y)], .bool true]) (by simp [results, Try.results106, go_sem, r0, r1]) rfl ⟨_, rfl, ?_, ?_⟩
            · simp only [size_set]
              exact (((OwnI.of (by rw [added_length]; exact HO2.out)).set (by simp; omega) _).set (by simp; omega) _).mono (by omega) (Nat.le_refl _)
            · exact ((HB1.out.trans (HBl.out.mono (by omega))).setCell (by simp) _).setCell (by simp) _
      exact AllReadyH.nil
    exact AllReadyH.nil
  refine AllReadyH.cons rfl (fun K hK => ?_) ?_
  · go_simp
    refine hK.out _ _ ?_ (fun hHeld => ?_)
    · exact ⟨cell_old _ hHeld.1, cell_old _ hHeld.2.1, Nat.le_trans hHeld.2.2.1 (by simp), hHeld.2.2.2.alloc hHeld.2.2.1 _⟩
    clear hK K
    try simp only [List.getElem_toArray, List.getElem_cons_succ, List.getElem_cons_zero, Act.put, List.setIfInBounds_toArray, List.set_cons_zero, List.set_cons_succ]
    refine wpAnyH_ready (rs := [2]) (by kernel_rfl) (by simp) ?_
    refine AllReadyH.cons rfl (fun K hK => ?_) ?_
    · go_simp
      refine Calls.mono (HT.out _ ?_) ?_
      · exact hHeld
      rintro e v0 ⟨g, cap, rfl, hg, ho, hbb, hbx⟩
      refine hK.out _ _ ?_ (fun hHeld => ?_)
      · exact hbx
      clear hK K
      try simp only [List.getElem_toArray, List.getElem_cons_succ, List.getElem_cons_zero, Act.put, List.setIfInBounds_toArray, List.set_cons_zero, List.set_cons_succ]
      refine wpAnyH_take (i := 7) (v := ?_) rfl (by kernel_rfl) (by kernel_rfl) (by kernel_rfl) (fun _ _ _ h => h) (Or.inl ⟨by rfl, ?_⟩) (by assumption) ?_
      rotate_left
      · intro w9 hSw; (try dsimp only at hSw); go_simp; try with_reducible rfl
      try simp only [List.getElem_toArray, List.getElem_cons_succ, List.getElem_cons_zero, Act.put, List.setIfInBounds_toArray, List.set_cons_zero, List.set_cons_succ]
      have y0 := cell_below hbb (show (w1.drew.alloc (.cells #[.slice none 0 0, .int .i64 0] 46)).cell? ⟨w1.heap.size, 0, none⟩ = some (.slice none 0 0) from cell_new _ _ _ rfl rfl) (by simp; done)
      have y1 := cell_below hbb (show (w1.drew.alloc (.cells #[.slice none 0 0, .int .i64 0] 46)).cell? ⟨w1.heap.size, 1, none⟩ = some (.int .i64 0) from cell_new _ _ _ rfl rfl) (by simp; done)
      have z0 := fro_below hbb (show (w1.drew.alloc (.cells #[.slice none 0 0, .int .i64 0] 46)).frozen? ⟨w1.heap.size, 0, none⟩ = false from fro_new _ _ _ rfl) (by simp; done)
      have z1 := fro_below hbb (show (w1.drew.alloc (.cells #[.slice none 0 0, .int .i64 0] 46)).frozen? ⟨w1.heap.size, 1, none⟩ = false from fro_new _ _ _ rfl) (by simp; done)
      have hb9 : Below w1.heap.size w1 v0 := hHeld.2.2.2
      have ho9 := ho
      have hg9 : w1.heap.size ≤ g ∧ g < v0.heap.size ∧ g ≠ w1.heap.size ∧ w1.heap.size ≤ w1.heap.size ∧ w1.heap.size < v0.heap.size := by have h1 := hbb.size; simp at h1 hg; omega
      refine wpAnyH_ready (rs := [9]) (by kernel_rfl) (by simp) ?_
      refine AllReadyH.cons rfl (fun K hK => ?_) ?_
      · go_simp
        refine hK.out _ _ ?_ (fun hHeld => ?_)
        · exact ⟨cell_set (cell_set hHeld.1 (by first | (simp; done) | (simp; omega) | omega) _) (by first | (simp; done) | (simp; omega) | omega) _, cell_set (cell_set hHeld.2.1 (by first | (simp; done) | (simp; omega) | omega) _) (by first | (simp; done) | (simp; omega) | omega) _, by rw [size_set, size_set]; exact hHeld.2.2.1, (hHeld.2.2.2.setCell (by first | (simp; done) | (simp; omega) | omega) _).setCell (by first | (simp; done) | (simp; omega) | omega) _⟩
        clear hK K
        try simp only [List.getElem_toArray, List.getElem_cons_succ, List.getElem_cons_zero, Act.put, List.setIfInBounds_toArray, List.set_cons_zero, List.set_cons_succ]
        refine wpAnyH_done (by kernel_rfl) ?_ _
        refine NoPanic.normal ?_
        have HX := Lib.hid (show ((v0.setCell ⟨w1.heap.size, 0, none⟩ (.slice (some ⟨g, 0, none⟩) ws.length cap)).setCell ⟨w1.heap.size, 1, none⟩ (.int .i64 (b - y))).cell? ⟨w1.heap.size, 0, none⟩ = some (.slice (some ⟨g, 0, none⟩) ws.length cap) ∧ ((v0.setCell ⟨w1.heap.size, 0, none⟩ (.slice (some ⟨g, 0, none⟩) ws.length cap)).setCell ⟨w1.heap.size, 1, none⟩ (.int .i64 (b - y))).cell? ⟨w1.heap.size, 1, none⟩ = some (.int .i64 (b - y)) from ⟨(World.cell?_setCell_other _ _ _ _ (by simp)).trans (World.cell?_setCell_same _ _ _ y0), World.cell?_setCell_same _ _ _ ((World.cell?_setCell_other _ _ _ _ (by simp)).trans y1)⟩)
        have HO := Lib.hid (show ((v0.setCell ⟨w1.heap.size, 0, none⟩ (.slice (some ⟨g, 0, none⟩) ws.length cap)).setCell ⟨w1.heap.size, 1, none⟩ (.int .i64 (b - y))).ownsRow w1.heap.size 3 1 (.slice (some ⟨g, 0, none⟩) ws.length cap) ws.length (ws.map (Value.int .i64)) from ownsRow_block (ownsRow_block ho (fun h e => Below.heap_setCell _ _ _ _ (by have e2 : g = h := (by simpa [Value.ownBlock] using e); simp; omega))) (fun h e => Below.heap_setCell _ _ _ _ (by have e2 : g = h := (by simpa [Value.ownBlock] using e); simp; omega)))
        have HB5 := Lib.hid hHeld.2.2.2
        have hg5 : w1.heap.size ≤ g ∧ g ≠ w1.heap.size ∧ w1.heap.size ≤ w1.heap.size := ⟨hg9.1, hg9.2.2.1, hg9.2.2.2.1⟩
        clear hHeld hg9 ho9 hb9 y0 y1 z0 z1 hbx hbb ho hg
        generalize hw5 : ((v0.setCell ⟨w1.heap.size, 0, none⟩ (.slice (some ⟨g, 0, none⟩) ws.length cap)).setCell ⟨w1.heap.size, 1, none⟩ (.int .i64 (b - y))) = v5 at *
        clear hw5 HT
        go_wp2_with fail
        go_loopw [9] (fun i wr => ∃ k : Nat, k ≤ ws.length ∧ i = .int .i64 k ∧ wr.ownsRow w1.heap.size 3 1 (.slice (some ⟨g, 0, none⟩) ws.length cap) ws.length ((pf (addAt ws xs y) ws k).map (Value.int .i64)) ∧ (wr.cell? ⟨w1.heap.size, 0, none⟩ = some (.slice (some ⟨g, 0, none⟩) ws.length cap) ∧ wr.cell? ⟨w1.heap.size, 1, none⟩ = some (.int .i64 (b - y))) ∧ Below w1.heap.size w1 wr) (fun i _ => ws.length - (intOf i).toNat)
        case atStart => exact ⟨0, Nat.zero_le _, rfl, by rw [pf_zero]; exact HO.out, HX.out, HB5.out⟩
        case round =>
          obtain ⟨k, hk, rfl, hown, ⟨c0, c1⟩, hbel⟩ := hrel
          have HBl := Lib.hid hbel
          by_cases hlt : k < ws.length
          · obtain ⟨xb, xo, hxa, hxb, hxc⟩ := (Hhx.out.below HB1.out).at (k := k) (by have := HLn.out; omega)
            subst hxa
            replace hxc := cell_below hbel hxc (by omega)
            have hcell := pf_cell hown hlt
            have hfro := hown.frozenAt k
            have HST := Lib.hid (pf_store hown hlt (ws.getD k 0 + y * xs.getD k 0) rfl)
            have hbd := HF.out.at k hlt
            have i1 : (0 : Int) ≤ (k : Int) := by omega
            have i2 : (k : Int) < (xs.length : Int) := by have := HLn.out; omega
            have i3 : (k : Int) < (ws.length : Int) := by omega
            clear hown hbel
            generalize ws.getD k 0 = s at *
            generalize xs.getD k 0 = x at *
            have e2 : IntKind.i64.wrap (y * x) = y * x := IntWalk.i64_in _ (by omega)
            have e3 : IntKind.i64.wrap (s + y * x) = s + y * x := IntWalk.i64_in _ (by omega)
            clear hbd
            go_wp2_with fail
            go_still_tail 15, (by kernel_rfl)
            go_wp2_with fail
            go_roundw
            case rel => exact ⟨k + 1, by omega, by go_num, HST.out, ⟨cell_set c0 (by simp; omega) _, cell_set c1 (by simp; omega) _⟩, (HBl.out.setCell (by simp; omega) _).drew⟩
            case measure => simp [intOf]; omega
          · obtain rfl : k = ws.length := by omega
            rw [pf_added] at hown
            have HO2 := Lib.hid hown
            have i2 : ¬ (ws.length : Int) < (xs.length : Int) := by have := HLn.out; omega
            have r0 := cell_below hbel HXB.out.1 (by omega)
            have r1 := cell_below hbel HXB.out.2.1 (by omega)
            have r2 := fro_below hbel HXB.out.2.2.1 (by omega)
            have r3 := fro_below hbel HXB.out.2.2.2 (by omega)
            have hsz := hbel.size
            clear hown hbel
            go_wp2_with fail
            refine bodyPost_ret (v := .tuple #[.agg #[.slice (some ⟨g, 0, none⟩) ws.length cap, .int .i64 (b - y)], .bool true]) (by simp [results, Try.results106, go_sem, r0, r1]) rfl ⟨_, rfl, ?_, ?_⟩
            · simp only [size_set]
              exact (((OwnI.of (by rw [added_length]; exact HO2.out)).set (by simp; omega) _).set (by simp; omega) _).mono (by omega) (Nat.le_refl _)
            · exact ((HB1.out.trans (HBl.out.mono (by omega))).setCell (by simp) _).setCell (by simp) _
      exact AllReadyH.nil
    exact AllReadyH.nil
  exact AllReadyH.nil
set_option maxRecDepth 100000 in
set_option maxHeartbeats 4000000 in
theorem impl_added (p : Option Addr) (ws : List Int) (q : Nat) (b : Int) (a : Option Addr) (xs : List Int) (c : Nat) (y : Int) (w : World) (hp : ints.Reads .i64 w p ws) (hx : ints.Reads .i64 w a xs) (hF : Fit ws xs b y) :
    Calls Try.prog 110 #[.agg #[.slice p ws.length q, .int .i64 b], .slice a xs.length c, .int .i64 y] w (planefns.MadeP (added ws xs y) (b - y) w) := by
  have HF := Lib.hid hF
  have hpos := hF.pos
  have hle := hF.le
  have HLn := Lib.hid hF.len
  have HS := Lib.hid hF.small
  have HBb := Lib.hid hF.bbd
  have HBt := Lib.hid hF.tbd
  clear hF
  obtain ⟨i0, hi, hz0, hz1, hz2⟩ := info_parts infoInt
  have e1 : IntKind.i64.wrap (b - y) = b - y := IntWalk.i64_in _ (by have := HBb.out; have := HBt.out; omega)
  have Hhp := Lib.hid hp
  have Hhx := Lib.hid hx
  clear hp hx
  have x0_0 : (w.alloc (.cells #[.slice p ws.length q, .int .i64 b] 46)).cell? ⟨w.heap.size, 0, none⟩ = some (.slice p ws.length q) := cell_new _ _ _ (by simp) rfl
  have x0_1 : (w.alloc (.cells #[.slice p ws.length q, .int .i64 b] 46)).cell? ⟨w.heap.size, 1, none⟩ = some (.int .i64 b) := cell_new _ _ _ (by simp) rfl
  have HB0 := Lib.hid (below_alloc w (.cells #[.slice p ws.length q, .int .i64 b] 46))
  replace x0_0 := cell_old (.cells #[.slice none 0 0, .int .i64 0] 46) x0_0
  replace x0_1 := cell_old (.cells #[.slice none 0 0, .int .i64 0] 46) x0_1
  have x1_0 : ((w.alloc (.cells #[.slice p ws.length q, .int .i64 b] 46)).alloc (.cells #[.slice none 0 0, .int .i64 0] 46)).cell? ⟨w.heap.size + 1, 0, none⟩ = some (.slice none 0 0) := cell_new _ _ _ (by simp) rfl
  have x1_1 : ((w.alloc (.cells #[.slice p ws.length q, .int .i64 b] 46)).alloc (.cells #[.slice none 0 0, .int .i64 0] 46)).cell? ⟨w.heap.size + 1, 1, none⟩ = some (.int .i64 0) := cell_new _ _ _ (by simp) rfl
  have f1_0 : ((w.alloc (.cells #[.slice p ws.length q, .int .i64 b] 46)).alloc (.cells #[.slice none 0 0, .int .i64 0] 46)).frozen? ⟨w.heap.size + 1, 0, none⟩ = false := fro_new _ _ _ (by simp)
  have f1_1 : ((w.alloc (.cells #[.slice p ws.length q, .int .i64 b] 46)).alloc (.cells #[.slice none 0 0, .int .i64 0] 46)).frozen? ⟨w.heap.size + 1, 1, none⟩ = false := fro_new _ _ _ (by simp)
  replace HB0 := Lib.hid (HB0.out.alloc (by simp) (.cells #[.slice none 0 0, .int .i64 0] 46))
  have s0 : w.heap.size + 2 ≤ ((w.alloc (.cells #[.slice p ws.length q, .int .i64 b] 46)).alloc (.cells #[.slice none 0 0, .int .i64 0] 46)).heap.size := by simp
  generalize hw : ((w.alloc (.cells #[.slice p ws.length q, .int .i64 b] 46)).alloc (.cells #[.slice none 0 0, .int .i64 0] 46)) = w0 at *
  have HW := Lib.hid hw
  clear hw
  have n0_0 : w.heap.size < w0.heap.size := by omega
  have n0_1 : w.heap.size + 1 < w0.heap.size := by omega
  have HXB := Lib.hid (show w0.cell? ⟨w.heap.size, 0, none⟩ = some (.slice p ws.length q) ∧ w0.cell? ⟨w.heap.size, 1, none⟩ = some (.int .i64 b) ∧ w0.cell? ⟨w.heap.size + 1, 0, none⟩ = some (.slice none 0 0) ∧ w0.cell? ⟨w.heap.size + 1, 1, none⟩ = some (.int .i64 0) from ⟨x0_0, x0_1, x1_0, x1_1⟩)
  have HFR := Lib.hid (show w0.frozen? ⟨w.heap.size + 1, 0, none⟩ = false ∧ w0.frozen? ⟨w.heap.size + 1, 1, none⟩ = false from ⟨f1_0, f1_1⟩)
  have EW : w.heap.size + 1 + 1 = w0.heap.size := by rw [← HW.out]; simp
  go_enter Try.func110, Try.ntmps110
  go_wp2_with (refine wpList_make_full _ rfl _ _ 23 rfl w0.heap.size 3 i0 (.int .i64 0) 1 Try.underlying23 hi hz0 hz1 .i64 .i64 _ _ ws.length rfl rfl rfl rfl (by rw [hz2]; omega) (by unfold maxLen; omega) (by first | exact Nat.le_refl _ | (rw [← HW.out]; exact Nat.le_refl _)) ?_; intro w3 hown1 hgrow1; refine Hid.out ?_)
  refine Lib.hid ?_
  rw [HW.out] at hgrow1 hown1
  clear EW
  have hb1 : Below w0.heap.size w0 w3 := (Below.refl _ _).grown hgrow1 (Nat.le_refl _) (by simp)
  have HO1 := Lib.hid hown1
  have HB3 := Lib.hid hb1
  replace x0_0 := cell_below hb1 x0_0 (by omega)
  clear hown1 hb1 hgrow1 x0_1 x1_0 x1_1 f1_0 f1_1
  go_wp2_with (refine copyw.wp_copy (o := ⟨some 16, _, _, _, _, _⟩) rfl (.tmp 13) (.tmp 15) 23 3 rfl Try.underlying23 (by rw [hi]; simp [hz1]) w0.heap.size w0.heap.size ws.length ws.length _ (by rfl) HO1.out p q ws (by rfl) rfl (Hhp.out.below (HB0.out.trans (HB3.out.mono (by omega)))) w0.heap.size w0 HB3.out (Nat.le_refl _) ?_; intro w4 hown4 hb4; refine Hid.out ?_)
  refine Lib.hid ?_
  have HO := Lib.hid hown4
  have HB4 := Lib.hid hb4
  have hb4s := hb4.size
  clear hown4 hb4 HO1 HB3 x0_0
  go_wp2_with fail
  go_loopw [19] (fun i wr => ∃ k : Nat, k ≤ ws.length ∧ i = .int .i64 k ∧ wr.ownsRow w0.heap.size 3 1 (.slice (some ⟨w0.heap.size, 0, none⟩) ws.length ws.length) ws.length ((pf (addAt ws xs y) ws k).map (Value.int .i64)) ∧ Below w0.heap.size w0 wr) (fun i _ => ws.length - (intOf i).toNat)
  case atStart => exact ⟨0, Nat.zero_le _, rfl, by rw [pf_zero]; exact HO.out, HB4.out⟩
  case round =>
    obtain ⟨k, hk, rfl, hown, hbel⟩ := hrel
    have HBl := Lib.hid hbel
    by_cases hlt : k < ws.length
    · obtain ⟨xb, xo, hxa, hxb, hxc⟩ := (Hhx.out.below HB0.out).at (k := k) (by have := HLn.out; omega)
      subst hxa
      replace hxc := cell_below hbel hxc (by omega)
      have hcell := pf_cell hown hlt
      have hfro := hown.frozenAt k
      have HST := Lib.hid (pf_store hown hlt (ws.getD k 0 + y * xs.getD k 0) rfl)
      have hbd := HF.out.at k hlt
      have i1 : (0 : Int) ≤ (k : Int) := by omega
      have i2 : (k : Int) < (xs.length : Int) := by have := HLn.out; omega
      have i3 : (k : Int) < (ws.length : Int) := by omega
      clear hown hbel
      generalize ws.getD k 0 = s at *
      generalize xs.getD k 0 = x at *
      have e2 : IntKind.i64.wrap (y * x) = y * x := IntWalk.i64_in _ (by omega)
      have e3 : IntKind.i64.wrap (s + y * x) = s + y * x := IntWalk.i64_in _ (by omega)
      clear hbd
      go_wp2_with fail
      go_still_tail 11, (by kernel_rfl)
      go_wp2_with fail
      go_roundw
      case rel => exact ⟨k + 1, by omega, by go_num, HST.out, (HBl.out.setCell (by simp) _).drew⟩
      case measure => simp [intOf]; omega
    · obtain rfl : k = ws.length := by omega
      rw [pf_added] at hown
      have HO2 := Lib.hid hown
      have r0 := cell_below hbel HXB.out.1 (by omega)
      have r1 := cell_below hbel HXB.out.2.1 (by omega)
      have r2 := cell_below hbel HXB.out.2.2.1 (by omega)
      have r3 := cell_below hbel HXB.out.2.2.2 (by omega)
      have g2 := fro_below hbel HFR.out.1 (by omega)
      have g3 := fro_below hbel HFR.out.2 (by omega)
      have hsz := hbel.size
      clear hown hbel
      go_wp2_with fail
      refine bodyPost_ret (v := .agg #[.slice (some ⟨w0.heap.size, 0, none⟩) ws.length ws.length, .int .i64 (b - y)]) (by simp [results, Try.results110, go_sem, r2, r3]) rfl ⟨_, rfl, ?_, ?_⟩
      · simp only [size_set]
        exact (((OwnI.of (by rw [added_length]; exact HO2.out)).set (by simp; omega) _).set (by simp; omega) _).mono (by omega) (Nat.le_refl _)
      · exact ((HB0.out.trans (HBl.out.mono (by omega))).setCell (by simp) _).setCell (by simp) _
end Go.Proofs.Ytocbklmkphgkeaa.step
