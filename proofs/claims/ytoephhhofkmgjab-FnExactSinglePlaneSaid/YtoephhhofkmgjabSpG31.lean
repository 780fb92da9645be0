/- Several texts in one. -/
import Derived.Test.YtoephhhofkmgjabSpG28
import Derived.Test.YtoephhhofkmgjabSpG24
namespace Go.Proofs.Ytoephhhofkmgjab.tablesample
open Go.RowKit own own1 pp range samplefns rowscopy part bitw told
set_option linter.unusedVariables false
set_option linter.unusedSimpArgs false
attribute [local go_sem ↓] Go.wp_at_zero Go.wp_at_succ
set_option maxRecDepth 100000 in
set_option maxHeartbeats 4000000 in
theorem impl_lo (n : Int) (a : Option Addr) (zs : List Int) (c : Nat) (w : World) (hr : ints.Reads .i64 w a zs) (hlo : n < 1) :
    Calls Try.prog 82 #[.int .i64 n, .slice a zs.length c] w (RetSB [] [] false w) := by
  have g1 : decide (n < 1) = true := decide_eq_true hlo
  have Hhr := Lib.hid hr
  clear hr
  go_enter Try.func82, Try.ntmps82
  go_wp2_with fail
  have x0_0 : (w.alloc (.cells #[.slice none 0 0, .slice none 0 0] 56)).cell? ⟨w.heap.size, 0, none⟩ = some (.slice none 0 0) := cell_new _ _ _ (by simp) rfl
  have x0_1 : (w.alloc (.cells #[.slice none 0 0, .slice none 0 0] 56)).cell? ⟨w.heap.size, 1, none⟩ = some (.slice none 0 0) := cell_new _ _ _ (by simp) rfl
  have f0_0 : (w.alloc (.cells #[.slice none 0 0, .slice none 0 0] 56)).frozen? ⟨w.heap.size, 0, none⟩ = false := fro_new _ _ _ (by simp)
  have f0_1 : (w.alloc (.cells #[.slice none 0 0, .slice none 0 0] 56)).frozen? ⟨w.heap.size, 1, none⟩ = false := fro_new _ _ _ (by simp)
  have HB0 := Lib.hid (below_alloc w (.cells #[.slice none 0 0, .slice none 0 0] 56))
  have s0 : w.heap.size + 1 ≤ (w.alloc (.cells #[.slice none 0 0, .slice none 0 0] 56)).heap.size := by simp
  generalize hw : (w.alloc (.cells #[.slice none 0 0, .slice none 0 0] 56)) = w0 at *
  clear hw
  have n0_0 : w.heap.size < w0.heap.size := by omega
  refine bodyPost_ret (v := .tuple #[.agg #[.slice none 0 0, .slice none 0 0], .bool false]) (by simp [results, Try.results82, go_sem, x0_0, x0_1]) rfl ⟨_, _, rfl, OwnS.of (OwnG.nil w.heap.size 0 _) (OwnI.nil w.heap.size 0 _) (.inl (Nat.zero_le _)) (Nat.le_refl _) (Nat.le_refl _) (Nat.zero_le _) (Nat.zero_le _), ?_⟩
  first | exact HB0.out | exact ((HB0.out.setCell (by simp) _).setCell (by simp) _)
set_option maxRecDepth 100000 in
set_option maxHeartbeats 4000000 in
theorem impl_no (n : Int) (a : Option Addr) (zs : List Int) (c : Nat) (w : World) (hr : ints.Reads .i64 w a zs) (hlo : ¬ n < 1) (HT : Hid (∀ wa : World, ints.Reads .i64 wa a zs → Calls Try.prog 74 #[.int .i64 n, .slice a zs.length c] wa (fun e w' => e = .returned (.bool false) ∧ ∃ m, w' = wa.drewN m))) :
    Calls Try.prog 82 #[.int .i64 n, .slice a zs.length c] w (RetSB [] [] false w) := by
  have g1 : decide (n < 1) = false := decide_eq_false hlo
  have Hhr := Lib.hid hr
  clear hr
  go_enter Try.func82, Try.ntmps82
  go_wp2_with fail
  have x0_0 : (w.alloc (.cells #[.slice none 0 0, .slice none 0 0] 56)).cell? ⟨w.heap.size, 0, none⟩ = some (.slice none 0 0) := cell_new _ _ _ (by simp) rfl
  have x0_1 : (w.alloc (.cells #[.slice none 0 0, .slice none 0 0] 56)).cell? ⟨w.heap.size, 1, none⟩ = some (.slice none 0 0) := cell_new _ _ _ (by simp) rfl
  have f0_0 : (w.alloc (.cells #[.slice none 0 0, .slice none 0 0] 56)).frozen? ⟨w.heap.size, 0, none⟩ = false := fro_new _ _ _ (by simp)
  have f0_1 : (w.alloc (.cells #[.slice none 0 0, .slice none 0 0] 56)).frozen? ⟨w.heap.size, 1, none⟩ = false := fro_new _ _ _ (by simp)
  have HB0 := Lib.hid (below_alloc w (.cells #[.slice none 0 0, .slice none 0 0] 56))
  have s0 : w.heap.size + 1 ≤ (w.alloc (.cells #[.slice none 0 0, .slice none 0 0] 56)).heap.size := by simp
  generalize hw : (w.alloc (.cells #[.slice none 0 0, .slice none 0 0] 56)) = w0 at *
  clear hw
  have n0_0 : w.heap.size < w0.heap.size := by omega
  refine (HT.out _ (Hhr.out.below HB0.out)).mono ?_
  rintro e w' ⟨rfl, m1, rfl⟩
  have hb := ints.below_drewN (Below.refl w0.heap.size w0) m1
  generalize hw : w0.drewN m1 = w1 at *
  clear hw
  have s1 : w0.heap.size ≤ w1.heap.size := hb.size
  have n1_0 : w.heap.size < w1.heap.size := by omega
  replace x0_0 := cell_below hb x0_0 (by omega)
  replace x0_1 := cell_below hb x0_1 (by omega)
  replace f0_0 := fro_below hb f0_0 (by omega)
  replace f0_1 := fro_below hb f0_1 (by omega)
  have HB1 := Lib.hid (HB0.out.trans (hb.mono (by omega)))
  clear hb
  go_wp2_with fail
  refine bodyPost_ret (v := .tuple #[.agg #[.slice none 0 0, .slice none 0 0], .bool false]) (by simp [results, Try.results82, go_sem, x0_0, x0_1]) rfl ⟨_, _, rfl, OwnS.of (OwnG.nil w.heap.size 0 _) (OwnI.nil w.heap.size 0 _) (.inl (Nat.zero_le _)) (Nat.le_refl _) (Nat.le_refl _) (Nat.zero_le _) (Nat.zero_le _), ?_⟩
  exact ((HB1.out.setCell (by simp) _).setCell (by simp) _)
set_option maxRecDepth 100000 in
set_option maxHeartbeats 4000000 in
theorem impl_yes (n : Nat) (a : Option Addr) (zs : List Int) (c : Nat) (w : World) (hr : ints.Reads .i64 w a zs) (h1 : 1 ≤ n) (h4 : n ≤ 4) (hm : zs.length ≤ 16) (hBt : numsR 0 1 zs = true) (HT : Hid (∀ wa : World, ints.Reads .i64 wa a zs → Calls Try.prog 74 #[.int .i64 n, .slice a zs.length c] wa (fun e w' => e = .returned (.bool true) ∧ ∃ m, w' = wa.drewN m))) :
    Calls Try.prog 82 #[.int .i64 n, .slice a zs.length c] w (RetSB (toldR n zs.length) (toldL zs zs.length) true w) := by
  have g1 : ¬ ((n : Int) < 1) := by omega
  obtain ⟨i0, hi, hz0, hz1, hz2⟩ := info_parts infoInts
  obtain ⟨iI, hi', hz0', hz1', hz2'⟩ := info_parts own1.infoInt
  have Hhr := Lib.hid hr
  have HhBt := Lib.hid hBt
  clear hr hBt
  go_enter Try.func82, Try.ntmps82
  go_wp2_with fail
  have x0_0 : (w.alloc (.cells #[.slice none 0 0, .slice none 0 0] 56)).cell? ⟨w.heap.size, 0, none⟩ = some (.slice none 0 0) := cell_new _ _ _ (by simp) rfl
  have x0_1 : (w.alloc (.cells #[.slice none 0 0, .slice none 0 0] 56)).cell? ⟨w.heap.size, 1, none⟩ = some (.slice none 0 0) := cell_new _ _ _ (by simp) rfl
  have f0_0 : (w.alloc (.cells #[.slice none 0 0, .slice none 0 0] 56)).frozen? ⟨w.heap.size, 0, none⟩ = false := fro_new _ _ _ (by simp)
  have f0_1 : (w.alloc (.cells #[.slice none 0 0, .slice none 0 0] 56)).frozen? ⟨w.heap.size, 1, none⟩ = false := fro_new _ _ _ (by simp)
  have HB0 := Lib.hid (below_alloc w (.cells #[.slice none 0 0, .slice none 0 0] 56))
  have s0 : w.heap.size + 1 ≤ (w.alloc (.cells #[.slice none 0 0, .slice none 0 0] 56)).heap.size := by simp
  generalize hw : (w.alloc (.cells #[.slice none 0 0, .slice none 0 0] 56)) = w0 at *
  clear hw
  have n0_0 : w.heap.size < w0.heap.size := by omega
  refine (HT.out _ (Hhr.out.below HB0.out)).mono ?_
  rintro e w' ⟨rfl, m1, rfl⟩
  have hb := ints.below_drewN (Below.refl w0.heap.size w0) m1
  generalize hw : w0.drewN m1 = w1 at *
  clear hw
  have s1 : w0.heap.size ≤ w1.heap.size := hb.size
  have n1_0 : w.heap.size < w1.heap.size := by omega
  replace x0_0 := cell_below hb x0_0 (by omega)
  replace x0_1 := cell_below hb x0_1 (by omega)
  replace f0_0 := fro_below hb f0_0 (by omega)
  replace f0_1 := fro_below hb f0_1 (by omega)
  have HB1 := Lib.hid (HB0.out.trans (hb.mono (by omega)))
  clear hb
  go_wp2_with fail
  have HBw := HB1
  have HBt := HhBt
  have HX := Lib.hid (show w1.cell? ⟨w.heap.size, 0, none⟩ = some (.slice none 0 0) ∧ w1.cell? ⟨w.heap.size, 1, none⟩ = some (.slice none 0 0) ∧ w1.frozen? ⟨w.heap.size, 0, none⟩ = false ∧ w1.frozen? ⟨w.heap.size, 1, none⟩ = false from ⟨x0_0, x0_1, f0_0, f0_1⟩)
  have HBI := Lib.hid (below_alloc w1 (.cells #[.slice none 0 0, .slice none 0 0] 56))
  have HY := Lib.hid (show (w1.alloc (.cells #[.slice none 0 0, .slice none 0 0] 56)).cell? ⟨w1.heap.size, 0, none⟩ = some ((.slice none 0 0)) ∧ (w1.alloc (.cells #[.slice none 0 0, .slice none 0 0] 56)).cell? ⟨w1.heap.size, 1, none⟩ = some ((.slice none 0 0)) ∧ (w1.alloc (.cells #[.slice none 0 0, .slice none 0 0] 56)).frozen? ⟨w1.heap.size, 0, none⟩ = false ∧ (w1.alloc (.cells #[.slice none 0 0, .slice none 0 0] 56)).frozen? ⟨w1.heap.size, 1, none⟩ = false from ⟨cell_new _ _ _ rfl rfl, cell_new _ _ _ rfl rfl, fro_new _ _ _ rfl, fro_new _ _ _ rfl⟩)
  have HO1 := Lib.hid (show Out w1.heap.size w1.heap.size (w1.alloc (.cells #[.slice none 0 0, .slice none 0 0] 56)).heap.size (w1.alloc (.cells #[.slice none 0 0, .slice none 0 0] 56)) (.slice none 0 0) (.slice none 0 0) [] [] [] from ⟨World.ownsRow_nil _ _ _ _, fun g e => by simp [Value.ownBlock] at e, RowsOf.nil _ _ _, World.ownsRow_nil _ _ _ _, fun g e => by simp [Value.ownBlock] at e, fun g e => by simp [Value.ownBlock] at e⟩)
  have sI : w1.heap.size + 1 ≤ (w1.alloc (.cells #[.slice none 0 0, .slice none 0 0] 56)).heap.size := by simp
  clear x0_0 x0_1 f0_0 f0_1
  go_loopw [21] (fun i wr => ∃ (k : Nat) (v l : Value) (cs : List Value), k ≤ zs.length ∧ i = .int .i64 k ∧ Hid (wr.cell? ⟨w1.heap.size, 0, none⟩ = some (v) ∧ wr.cell? ⟨w1.heap.size, 1, none⟩ = some (l) ∧ wr.frozen? ⟨w1.heap.size, 0, none⟩ = false ∧ wr.frozen? ⟨w1.heap.size, 1, none⟩ = false) ∧ Hid (Out w1.heap.size (w1.heap.size) wr.heap.size wr v l cs (toldR n k) (toldL zs k)) ∧ Hid (Below w1.heap.size w1 wr) ∧ w1.heap.size + 1 ≤ wr.heap.size) (fun i _ => zs.length - (intOf i).toNat)
  case atStart => exact ⟨0, _, _, [], Nat.zero_le _, rfl, HY, HO1, HBI, sI⟩
  case round =>
    obtain ⟨k, v, l, cs, hk, rfl, HC, HO, HBl, hsz⟩ := hrel
    clear sI
    by_cases hlt : k < zs.length
    · obtain ⟨bz, oz, rfl, hbz, hcz⟩ := (Hhr.out.below HBw.out).at hlt
      have y0 := HC.out.1
      have hbit := numsR_at HBt.out k hlt
      have HSR := Lib.hid (toldR_succ n k)
      have HSL := Lib.hid (toldL_succ zs k hlt)
      have hRl := toldR_length n k
      have hLl := toldL_length zs k hk
      have hrl := bitsTo_length k n
      have xz := cell_below HBl.out hcz hbz
      have HT0 := Lib.hid (show ∀ wa : World, (wr.heap.size ≤ wa.heap.size ∧ Below w1.heap.size w1 wa) → (wa.cell? ⟨w1.heap.size, 0, none⟩ = some (v) ∧ wa.cell? ⟨w1.heap.size, 1, none⟩ = some (l) ∧ wa.frozen? ⟨w1.heap.size, 0, none⟩ = false ∧ wa.frozen? ⟨w1.heap.size, 1, none⟩ = false) → (Out w1.heap.size (w1.heap.size) wr.heap.size wa v l cs (toldR n k) (toldL zs k)) → Calls Try.prog 97 #[.int .i64 n, .int .i64 k] wa (fun e w' => ∃ (p1 : Option Addr) (q1 : Nat), e = .returned (.slice p1 (bitsTo k n).length q1) ∧ OwnI wr.heap.size w'.heap.size w' (.slice p1 (bitsTo k n).length q1) (bitsTo k n) ∧ (Out w1.heap.size (w1.heap.size) wr.heap.size w' v l cs (toldR n k) (toldL zs k)) ∧ (w'.cell? ⟨w1.heap.size, 0, none⟩ = some (v) ∧ w'.cell? ⟨w1.heap.size, 1, none⟩ = some (l) ∧ w'.frozen? ⟨w1.heap.size, 0, none⟩ = false ∧ w'.frozen? ⟨w1.heap.size, 1, none⟩ = false) ∧ wr.heap.size ≤ w'.heap.size ∧ Below w1.heap.size w1 w') from fun wa hS hQ hO => by
        have hwz := hS.1
        have hB := hS.2
        refine (impl_bits n k wa h4 (by omega)).mono ?_
        rintro e w' ⟨v', rfl, ho, hb⟩
        obtain ⟨p1, q1, rfl, _, _, _⟩ := ho.slice
        exact ⟨p1, q1, rfl, ho.mono hwz (Nat.le_refl _), hO.below hb, ⟨cell_below hb hQ.1 (by omega), cell_below hb hQ.2.1 (by omega), fro_below hb hQ.2.2.1 (by omega), fro_below hb hQ.2.2.2 (by omega)⟩, Nat.le_trans hwz hb.size, hB.trans (hb.mono (by omega))⟩)
      have XQ := Lib.hid (show w1.cell? ⟨bz, oz + k, none⟩ = some (.int .i64 (zs.getD k 0)) from hcz)
      generalize bitsTo k n = r at *
      generalize zs.getD k 0 = z at *
      generalize toldR n k = RR at *
      generalize toldL zs k = LL at *
      have e1 : IntKind.i64.wrap (2 * z) = 2 * z := IntWalk.i64_in _ (by omega)
      have e2 : IntKind.i64.wrap (2 * z - 1) = 2 * z - 1 := IntWalk.i64_in _ (by omega)
      have HRl := Lib.hid hRl
      have HLl := Lib.hid hLl
      have i1 : (0 : Int) ≤ (k : Int) := by omega
      have i2 : (k : Int) < (zs.length : Int) := by omega
      have HI := Lib.hid i2
      clear hRl hLl hrl hbit hcz
      have HA5 := Lib.hid (show ∀ (W W3 : World) (o : Option Nat), (wr.heap.size ≤ W.heap.size ∧ Below w1.heap.size w1 W) → W.grownBy W3 o → (∀ g, o = some g → w1.heap.size ≤ g ∧ g ≠ w1.heap.size) → (wr.heap.size ≤ W3.heap.size ∧ Below w1.heap.size w1 W3) from fun W W3 o hS hg ho => by
        have nf : ∀ q, some q = o → q < w1.heap.size → False := fun q e h => by have := (ho q e.symm).1; omega
        exact ⟨Nat.le_trans hS.1 hg.size, hS.2.grown hg (by have := hS.1; omega) (fun g e => (ho g e).1)⟩)
      have HQ := Lib.hid (show ∀ (W W3 : World) (o : Option Nat) (v l : Value), (W.cell? ⟨w1.heap.size, 0, none⟩ = some (v) ∧ W.cell? ⟨w1.heap.size, 1, none⟩ = some (l) ∧ W.frozen? ⟨w1.heap.size, 0, none⟩ = false ∧ W.frozen? ⟨w1.heap.size, 1, none⟩ = false) → W.grownBy W3 o → (∀ g, o = some g → w1.heap.size ≤ g ∧ g ≠ w1.heap.size) → w1.heap.size < W.heap.size → (W3.cell? ⟨w1.heap.size, 0, none⟩ = some (v) ∧ W3.cell? ⟨w1.heap.size, 1, none⟩ = some (l) ∧ W3.frozen? ⟨w1.heap.size, 0, none⟩ = false ∧ W3.frozen? ⟨w1.heap.size, 1, none⟩ = false) from fun W W3 o v l hQ hg ho hB => by
        have nf : ∀ q, some q = o → q = w1.heap.size → False := fun q e h => (ho q e.symm).2 h
        exact ⟨hg.cell hQ.1 (fun e => nf _ e rfl), hg.cell hQ.2.1 (fun e => nf _ e rfl), (hg.frozen_far ⟨w1.heap.size, 0, none⟩ hB (fun e => nf _ e rfl)).trans hQ.2.2.1, (hg.frozen_far ⟨w1.heap.size, 1, none⟩ hB (fun e => nf _ e rfl)).trans hQ.2.2.2⟩)
      go_wp2_with fail
      refine wp_region_noPanic ?_
      refine wp_region_held_drew (S := fun w' => wr.heap.size ≤ w'.heap.size ∧ Below w1.heap.size w1 w') (by kernel_rfl) ?_ (fun hHeld => ?_)
      · exact ⟨Nat.le_refl _, HBl.out.drew⟩
      refine wpAnyH_take (i := 0) (v := ?_) rfl (by kernel_rfl) (by kernel_rfl) (by kernel_rfl) (fun _ _ _ h => h) (Or.inl ⟨by rfl, ?_⟩) (by assumption) ?_
      rotate_left
      · intro w9 hSw; (try dsimp only at hSw); go_simp; try with_reducible rfl
      try simp only [List.getElem_toArray, List.getElem_cons_succ, List.getElem_cons_zero, Act.put, List.setIfInBounds_toArray, List.set_cons_zero, List.set_cons_succ]
      refine wpAnyH_take (i := 2) (v := ?_) rfl (by kernel_rfl) (by kernel_rfl) (by kernel_rfl) (fun _ _ _ h => h) (Or.inl ⟨by rfl, ?_⟩) (by assumption) ?_
      rotate_left
      · intro w9 hSw; (try dsimp only at hSw); go_simp; try with_reducible rfl
      try simp only [List.getElem_toArray, List.getElem_cons_succ, List.getElem_cons_zero, Act.put, List.setIfInBounds_toArray, List.set_cons_zero, List.set_cons_succ]
      refine wpAnyH_take (i := 3) (v := ?_) rfl (by kernel_rfl) (by kernel_rfl) (by kernel_rfl) (fun _ _ _ h => h) (Or.inl ⟨by rfl, ?_⟩) (by assumption) ?_
      rotate_left
      · intro w9 hSw; (try dsimp only at hSw); go_simp; try with_reducible rfl
      try simp only [List.getElem_toArray, List.getElem_cons_succ, List.getElem_cons_zero, Act.put, List.setIfInBounds_toArray, List.set_cons_zero, List.set_cons_succ]
      refine wpAnyH_ready (rs := [1, 4]) (by kernel_rfl) (by simp) ?_
      refine AllReadyH.cons rfl (fun K hK => ?_) ?_
      · go_simp
        refine hK.out _ _ ?_ (fun hHeld => ?_)
        · exact hHeld
        clear hK K
        try simp only [List.getElem_toArray, List.getElem_cons_succ, List.getElem_cons_zero, Act.put, List.setIfInBounds_toArray, List.set_cons_zero, List.set_cons_succ]
        refine wpAnyH_ready (rs := [4]) (by kernel_rfl) (by simp) ?_
        refine AllReadyH.cons rfl (fun K hK => ?_) ?_
        · go_simp
          refine Calls.mono (HT0.out _ ?_ ?_ ?_) ?_
          · exact hHeld
          · exact HC.out
          · exact HO.out.below (Below.refl _ _).drew
          rintro e va ⟨p1, q1, rfl, ho0, hO0, ⟨q0_0, q0_1, q0_2, q0_3⟩, hbx⟩
          have z0 : ∀ O, (va.alloc O).cell? ⟨w1.heap.size, 0, none⟩ = some v := fun O => cell_old O q0_0
          have hx1 := Lib.hid hbx
          have hO1 := Lib.hid hO0
          have ho1 := Lib.hid ho0
          clear hO0 ho0
          refine hK.out _ _ ?_ (fun hHeld => ?_)
          · exact hbx
          clear hK K
          try simp only [List.getElem_toArray, List.getElem_cons_succ, List.getElem_cons_zero, Act.put, List.setIfInBounds_toArray, List.set_cons_zero, List.set_cons_succ]
          refine wpAnyH_ready (rs := [5]) (by kernel_rfl) (by simp) ?_
          refine AllReadyH.cons rfl (fun K hK => ?_) ?_
          · go_simp
            refine hK.out _ _ ?_ (fun hHeld => ?_)
            · exact ⟨Nat.le_trans hbx.1 (by simp), hbx.2.alloc (by have := hbx.1; omega) _⟩
            clear hK K
            try simp only [List.getElem_toArray, List.getElem_cons_succ, List.getElem_cons_zero, Act.put, List.setIfInBounds_toArray, List.set_cons_zero, List.set_cons_succ]
            refine wpAnyH_ready (rs := [6]) (by kernel_rfl) (by simp) ?_
            refine AllReadyH.cons rfl (fun K hK => ?_) ?_
            · (refine step_append_lies _ (by rfl) _ _ _ (by rfl) w1.heap.size 22 i0 _ 1 24 Try.underlying28 hi hz0 hz1 hz2 rfl (by omega) v RR.length cs (by rfl) (hO1.out.1.alloc _) ⟨va.heap.size, 0, none⟩ 1 1 [.slice p1 r.length q1] (by rfl) (by rfl) (World.news_of_block (cs := #[.slice p1 r.length q1]) (t := 22) (fr := (0, 0)) (heap_alloc_new va _)) (by simp [Value.oneCell']) (by omega) (by have := HRl.out; unfold maxLen; omega) (by have := HRl.out; omega) (Nat.le_trans (by omega) (Nat.le_trans hx1.out.1 (by simp))) (va.heap.size + 1) (by simp) ?_)
              intro gg cap w3 hown1 hgrow hat hlt'
              have hv9 := fun g e => And.intro (hO1.out.1.lt g e).1 (hO1.out.2.1 g e).1
              have hO3 := Lib.hid (Out.row hO1.out ho1.out hx1.out.1 (by omega) hgrow hown1 hat hlt')
              obtain ⟨t0, t1, t2, t3⟩ := HQ.out _ _ _ _ _ ⟨cell_old _ q0_0, cell_old _ q0_1, fro_old _ (by have := hx1.out.1; omega) q0_2, fro_old _ (by have := hx1.out.1; omega) q0_3⟩ hgrow hv9 (by have := hx1.out.1; simp; omega)
              have hx3 := Lib.hid (HA5.out _ _ _ ⟨Nat.le_trans hx1.out.1 (by simp), hx1.out.2.alloc (by have := hx1.out.1; omega) _⟩ hgrow hv9)
              clear hown1 hgrow hat hv9
              refine hK.out _ _ ?_ (fun hHeld => ?_)
              · exact hx3.out
              clear hK K
              try simp only [List.getElem_toArray, List.getElem_cons_succ, List.getElem_cons_zero, Act.put, List.setIfInBounds_toArray, List.set_cons_zero, List.set_cons_succ]
              refine wpAnyH_take (i := 7) (v := ?_) rfl (by kernel_rfl) (by kernel_rfl) (by kernel_rfl) (fun _ _ _ h => h) (Or.inl ⟨by rfl, ?_⟩) (by assumption) ?_
              rotate_left
              · intro w9 hSw; (try dsimp only at hSw); go_simp; try with_reducible rfl
              try simp only [List.getElem_toArray, List.getElem_cons_succ, List.getElem_cons_zero, Act.put, List.setIfInBounds_toArray, List.set_cons_zero, List.set_cons_succ]
              refine wpAnyH_ready (rs := [8]) (by kernel_rfl) (by simp) ?_
              refine AllReadyH.cons rfl (fun K hK => ?_) ?_
              · go_simp
                refine hK.out _ _ ?_ (fun hHeld => ?_)
                · exact ⟨by rw [size_set]; exact hx3.out.1, hx3.out.2.setCell (by simp) _⟩
                clear hK K
                try simp only [List.getElem_toArray, List.getElem_cons_succ, List.getElem_cons_zero, Act.put, List.setIfInBounds_toArray, List.set_cons_zero, List.set_cons_succ]
                refine wpAnyH_done (by kernel_rfl) ?_ _
                refine NoPanic.normal ?_
                have HO6 := Lib.hid (show Out w1.heap.size (w1.heap.size) (w3.setCell ⟨w1.heap.size, 0, none⟩ (Value.slice (some ⟨gg, 0, none⟩) (RR.length + 1) cap)).heap.size (w3.setCell ⟨w1.heap.size, 0, none⟩ (Value.slice (some ⟨gg, 0, none⟩) (RR.length + 1) cap)) (Value.slice (some ⟨gg, 0, none⟩) (RR.length + 1) cap) l (cs ++ [.slice p1 r.length q1]) (RR ++ [r]) LL from by rw [size_set]; exact hO3.out.set 0 _)
                have HY6 := Lib.hid (show (w3.setCell ⟨w1.heap.size, 0, none⟩ (Value.slice (some ⟨gg, 0, none⟩) (RR.length + 1) cap)).cell? ⟨w1.heap.size, 0, none⟩ = some ((Value.slice (some ⟨gg, 0, none⟩) (RR.length + 1) cap)) ∧ (w3.setCell ⟨w1.heap.size, 0, none⟩ (Value.slice (some ⟨gg, 0, none⟩) (RR.length + 1) cap)).cell? ⟨w1.heap.size, 1, none⟩ = some (l) ∧ (w3.setCell ⟨w1.heap.size, 0, none⟩ (Value.slice (some ⟨gg, 0, none⟩) (RR.length + 1) cap)).frozen? ⟨w1.heap.size, 0, none⟩ = false ∧ (w3.setCell ⟨w1.heap.size, 0, none⟩ (Value.slice (some ⟨gg, 0, none⟩) (RR.length + 1) cap)).frozen? ⟨w1.heap.size, 1, none⟩ = false from ⟨World.cell?_setCell_same _ _ _ t0, (World.cell?_setCell_other _ _ _ _ (by simp)).trans t1, by rw [World.frozen?_setCell]; exact t2, by rw [World.frozen?_setCell]; exact t3⟩)
                have hb6 := Lib.hid hHeld.2
                have hs6 : w1.heap.size + 1 ≤ (w3.setCell ⟨w1.heap.size, 0, none⟩ (Value.slice (some ⟨gg, 0, none⟩) (RR.length + 1) cap)).heap.size := by have := hHeld.1; omega
                generalize hw : (w3.setCell ⟨w1.heap.size, 0, none⟩ (Value.slice (some ⟨gg, 0, none⟩) (RR.length + 1) cap)) = wB at *
                clear hw hHeld t0 t1 t2 t3
                have x8 := cell_below hb6.out XQ.out hbz
                have y1 := HY6.out.2.1
                have z1 : ∀ O, (wB.alloc O).cell? ⟨w1.heap.size, 1, none⟩ = some l := fun O => cell_old O y1
                have i6 := HI.out
                have HA6 := Lib.hid (show ∀ (W W3 : World) (o : Option Nat), (W.cell? ⟨bz, oz + k, none⟩ = some (.int .i64 z) ∧ wB.heap.size ≤ W.heap.size ∧ Below w1.heap.size w1 W) → W.grownBy W3 o → (∀ g, o = some g → w1.heap.size ≤ g ∧ g ≠ w1.heap.size) → (W3.cell? ⟨bz, oz + k, none⟩ = some (.int .i64 z) ∧ wB.heap.size ≤ W3.heap.size ∧ Below w1.heap.size w1 W3) from fun W W3 o hS hg ho => by
                  have nf : ∀ q, some q = o → q < w1.heap.size → False := fun q e h => by have := (ho q e.symm).1; omega
                  exact ⟨hg.cell hS.1 (fun e => nf _ e (by simp; omega)), Nat.le_trans hS.2.1 hg.size, hS.2.2.grown hg (by have := hS.2.1; omega) (fun g e => (ho g e).1)⟩)
                go_wp2_with (at_builtin; refine wpList_append_lies _ rfl _ _ 22 rfl w1.heap.size 3 iI (.int .i64 0) 1 8 Try.underlying22 hi' hz0' hz1' hz2' rfl (by decide) l LL.length (LL.map (Value.int .i64)) rfl (HO6.out.2.2.2.1.alloc _) ⟨wB.heap.size, 0, none⟩ 1 1 [.int .i64 (2 * z - 1)] rfl rfl (World.news_of_block (cs := #[.int .i64 (2 * z - 1)]) (t := 3) (fr := (0, 0)) (heap_alloc_new wB _)) (by simp [Value.oneCell']) (by omega) (by have := HLl.out; unfold maxLen; omega) (by have := HLl.out; omega) (by simp; omega) (wB.heap.size + 1) (by simp) ?_; intro gg2 cap2 w5 hown2 hgrow2 hat2 hlt2; refine Hid.out ?_)
                refine Lib.hid ?_
                have hv8 := fun g e => And.intro (HO6.out.2.2.2.1.lt g e).1 (HO6.out.2.2.2.2.1 g e).1
                have hO5 := Lib.hid (Out.label (W := wB) (O := (.cells #[.int .i64 (2 * z - 1)] 3)) HO6.out (Nat.le_refl _) (by omega) hgrow2 hown2 hat2 hlt2)
                obtain ⟨t0, t1, t2, t3⟩ := HQ.out (wB.alloc (.cells #[.int .i64 (2 * z - 1)] 3)) _ _ _ _ ⟨cell_old _ HY6.out.1, cell_old _ HY6.out.2.1, fro_old _ (by omega) HY6.out.2.2.1, fro_old _ (by omega) HY6.out.2.2.2⟩ hgrow2 hv8 (by simp; omega)
                have hx5 := Lib.hid (HA6.out (wB.alloc (.cells #[.int .i64 (2 * z - 1)] 3)) _ _ ⟨cell_old _ x8, by simp, hb6.out.alloc (by omega) _⟩ hgrow2 hv8)
                have hHeld : (w5.setCell ⟨w1.heap.size, 1, none⟩ (Value.slice (some ⟨gg2, 0, none⟩) (LL.length + 1) cap2)).cell? ⟨bz, oz + k, none⟩ = some (.int .i64 z) ∧ wB.heap.size ≤ (w5.setCell ⟨w1.heap.size, 1, none⟩ (Value.slice (some ⟨gg2, 0, none⟩) (LL.length + 1) cap2)).heap.size ∧ Below w1.heap.size w1 (w5.setCell ⟨w1.heap.size, 1, none⟩ (Value.slice (some ⟨gg2, 0, none⟩) (LL.length + 1) cap2)) := ⟨cell_set hx5.out.1 (by simp; omega) _, by rw [size_set]; exact hx5.out.2.1, hx5.out.2.2.setCell (by simp) _⟩
                clear hown2 hgrow2 hat2
                have HO7 := Lib.hid (show Out w1.heap.size (w1.heap.size) (w5.setCell ⟨w1.heap.size, 1, none⟩ (Value.slice (some ⟨gg2, 0, none⟩) (LL.length + 1) cap2)).heap.size (w5.setCell ⟨w1.heap.size, 1, none⟩ (Value.slice (some ⟨gg2, 0, none⟩) (LL.length + 1) cap2)) (Value.slice (some ⟨gg, 0, none⟩) (RR.length + 1) cap) (Value.slice (some ⟨gg2, 0, none⟩) (LL.length + 1) cap2) (cs ++ [.slice p1 r.length q1]) (RR ++ [r]) (LL ++ [2 * z - 1]) from by rw [size_set]; exact hO5.out.set 1 _)
                have HY7 := Lib.hid (show (w5.setCell ⟨w1.heap.size, 1, none⟩ (Value.slice (some ⟨gg2, 0, none⟩) (LL.length + 1) cap2)).cell? ⟨w1.heap.size, 0, none⟩ = some ((Value.slice (some ⟨gg, 0, none⟩) (RR.length + 1) cap)) ∧ (w5.setCell ⟨w1.heap.size, 1, none⟩ (Value.slice (some ⟨gg2, 0, none⟩) (LL.length + 1) cap2)).cell? ⟨w1.heap.size, 1, none⟩ = some ((Value.slice (some ⟨gg2, 0, none⟩) (LL.length + 1) cap2)) ∧ (w5.setCell ⟨w1.heap.size, 1, none⟩ (Value.slice (some ⟨gg2, 0, none⟩) (LL.length + 1) cap2)).frozen? ⟨w1.heap.size, 0, none⟩ = false ∧ (w5.setCell ⟨w1.heap.size, 1, none⟩ (Value.slice (some ⟨gg2, 0, none⟩) (LL.length + 1) cap2)).frozen? ⟨w1.heap.size, 1, none⟩ = false from ⟨(World.cell?_setCell_other _ _ _ _ (by simp)).trans t0, World.cell?_setCell_same _ _ _ t1, by rw [World.frozen?_setCell]; exact t2, by rw [World.frozen?_setCell]; exact t3⟩)
                have hb7 := Lib.hid hHeld.2.2
                have hs7 : w1.heap.size + 1 ≤ (w5.setCell ⟨w1.heap.size, 1, none⟩ (Value.slice (some ⟨gg2, 0, none⟩) (LL.length + 1) cap2)).heap.size := by have := hHeld.2.1; omega
                clear hHeld
                go_wp2_with fail
                go_roundw
                case rel => exact ⟨k + 1, _, _, _, by omega, by go_num, HY7, by rw [HSR.out, HSL.out]; exact HO7, hb7, hs7⟩
                case measure => simp [intOf]; omega
              exact AllReadyH.nil
            exact AllReadyH.nil
          exact AllReadyH.nil
        exact AllReadyH.nil
      refine AllReadyH.cons rfl (fun K hK => ?_) ?_
      · go_simp
        refine Calls.mono (HT0.out _ ?_ ?_ ?_) ?_
        · exact hHeld
        · exact HC.out
        · exact HO.out.below (Below.refl _ _).drew
        rintro e va ⟨p1, q1, rfl, ho0, hO0, ⟨q0_0, q0_1, q0_2, q0_3⟩, hbx⟩
        have z0 : ∀ O, (va.alloc O).cell? ⟨w1.heap.size, 0, none⟩ = some v := fun O => cell_old O q0_0
        have hx1 := Lib.hid hbx
        have hO1 := Lib.hid hO0
        have ho1 := Lib.hid ho0
        clear hO0 ho0
        refine hK.out _ _ ?_ (fun hHeld => ?_)
        · exact hbx
        clear hK K
        try simp only [List.getElem_toArray, List.getElem_cons_succ, List.getElem_cons_zero, Act.put, List.setIfInBounds_toArray, List.set_cons_zero, List.set_cons_succ]
        refine wpAnyH_ready (rs := [1, 5]) (by kernel_rfl) (by simp) ?_
        refine AllReadyH.cons rfl (fun K hK => ?_) ?_
        · go_simp
          refine hK.out _ _ ?_ (fun hHeld => ?_)
          · exact hHeld
          clear hK K
          try simp only [List.getElem_toArray, List.getElem_cons_succ, List.getElem_cons_zero, Act.put, List.setIfInBounds_toArray, List.set_cons_zero, List.set_cons_succ]
          refine wpAnyH_ready (rs := [5]) (by kernel_rfl) (by simp) ?_
          refine AllReadyH.cons rfl (fun K hK => ?_) ?_
          · go_simp
            refine hK.out _ _ ?_ (fun hHeld => ?_)
            · exact ⟨Nat.le_trans hbx.1 (by simp), hbx.2.alloc (by have := hbx.1; omega) _⟩
            clear hK K
            try simp only [List.getElem_toArray, List.getElem_cons_succ, List.getElem_cons_zero, Act.put, List.setIfInBounds_toArray, List.set_cons_zero, List.set_cons_succ]
            refine wpAnyH_ready (rs := [6]) (by kernel_rfl) (by simp) ?_
            refine AllReadyH.cons rfl (fun K hK => ?_) ?_
            · (refine step_append_lies _ (by rfl) _ _ _ (by rfl) w1.heap.size 22 i0 _ 1 24 Try.underlying28 hi hz0 hz1 hz2 rfl (by omega) v RR.length cs (by rfl) (hO1.out.1.alloc _) ⟨va.heap.size, 0, none⟩ 1 1 [.slice p1 r.length q1] (by rfl) (by rfl) (World.news_of_block (cs := #[.slice p1 r.length q1]) (t := 22) (fr := (0, 0)) (heap_alloc_new va _)) (by simp [Value.oneCell']) (by omega) (by have := HRl.out; unfold maxLen; omega) (by have := HRl.out; omega) (Nat.le_trans (by omega) (Nat.le_trans hx1.out.1 (by simp))) (va.heap.size + 1) (by simp) ?_)
              intro gg cap w3 hown1 hgrow hat hlt'
              have hv9 := fun g e => And.intro (hO1.out.1.lt g e).1 (hO1.out.2.1 g e).1
              have hO3 := Lib.hid (Out.row hO1.out ho1.out hx1.out.1 (by omega) hgrow hown1 hat hlt')
              obtain ⟨t0, t1, t2, t3⟩ := HQ.out _ _ _ _ _ ⟨cell_old _ q0_0, cell_old _ q0_1, fro_old _ (by have := hx1.out.1; omega) q0_2, fro_old _ (by have := hx1.out.1; omega) q0_3⟩ hgrow hv9 (by have := hx1.out.1; simp; omega)
              have hx3 := Lib.hid (HA5.out _ _ _ ⟨Nat.le_trans hx1.out.1 (by simp), hx1.out.2.alloc (by have := hx1.out.1; omega) _⟩ hgrow hv9)
              clear hown1 hgrow hat hv9
              refine hK.out _ _ ?_ (fun hHeld => ?_)
              · exact hx3.out
              clear hK K
              try simp only [List.getElem_toArray, List.getElem_cons_succ, List.getElem_cons_zero, Act.put, List.setIfInBounds_toArray, List.set_cons_zero, List.set_cons_succ]
              refine wpAnyH_take (i := 7) (v := ?_) rfl (by kernel_rfl) (by kernel_rfl) (by kernel_rfl) (fun _ _ _ h => h) (Or.inl ⟨by rfl, ?_⟩) (by assumption) ?_
              rotate_left
              · intro w9 hSw; (try dsimp only at hSw); go_simp; try with_reducible rfl
              try simp only [List.getElem_toArray, List.getElem_cons_succ, List.getElem_cons_zero, Act.put, List.setIfInBounds_toArray, List.set_cons_zero, List.set_cons_succ]
              refine wpAnyH_ready (rs := [8]) (by kernel_rfl) (by simp) ?_
              refine AllReadyH.cons rfl (fun K hK => ?_) ?_
              · go_simp
                refine hK.out _ _ ?_ (fun hHeld => ?_)
                · exact ⟨by rw [size_set]; exact hx3.out.1, hx3.out.2.setCell (by simp) _⟩
                clear hK K
                try simp only [List.getElem_toArray, List.getElem_cons_succ, List.getElem_cons_zero, Act.put, List.setIfInBounds_toArray, List.set_cons_zero, List.set_cons_succ]
                refine wpAnyH_done (by kernel_rfl) ?_ _
                refine NoPanic.normal ?_
                have HO6 := Lib.hid (show Out w1.heap.size (w1.heap.size) (w3.setCell ⟨w1.heap.size, 0, none⟩ (Value.slice (some ⟨gg, 0, none⟩) (RR.length + 1) cap)).heap.size (w3.setCell ⟨w1.heap.size, 0, none⟩ (Value.slice (some ⟨gg, 0, none⟩) (RR.length + 1) cap)) (Value.slice (some ⟨gg, 0, none⟩) (RR.length + 1) cap) l (cs ++ [.slice p1 r.length q1]) (RR ++ [r]) LL from by rw [size_set]; exact hO3.out.set 0 _)
                have HY6 := Lib.hid (show (w3.setCell ⟨w1.heap.size, 0, none⟩ (Value.slice (some ⟨gg, 0, none⟩) (RR.length + 1) cap)).cell? ⟨w1.heap.size, 0, none⟩ = some ((Value.slice (some ⟨gg, 0, none⟩) (RR.length + 1) cap)) ∧ (w3.setCell ⟨w1.heap.size, 0, none⟩ (Value.slice (some ⟨gg, 0, none⟩) (RR.length + 1) cap)).cell? ⟨w1.heap.size, 1, none⟩ = some (l) ∧ (w3.setCell ⟨w1.heap.size, 0, none⟩ (Value.slice (some ⟨gg, 0, none⟩) (RR.length + 1) cap)).frozen? ⟨w1.heap.size, 0, none⟩ = false ∧ (w3.setCell ⟨w1.heap.size, 0, none⟩ (Value.slice (some ⟨gg, 0, none⟩) (RR.length + 1) cap)).frozen? ⟨w1.heap.size, 1, none⟩ = false from ⟨World.cell?_setCell_same _ _ _ t0, (World.cell?_setCell_other _ _ _ _ (by simp)).trans t1, by rw [World.frozen?_setCell]; exact t2, by rw [World.frozen?_setCell]; exact t3⟩)
                have hb6 := Lib.hid hHeld.2
                have hs6 : w1.heap.size + 1 ≤ (w3.setCell ⟨w1.heap.size, 0, none⟩ (Value.slice (some ⟨gg, 0, none⟩) (RR.length + 1) cap)).heap.size := by have := hHeld.1; omega
                generalize hw : (w3.setCell ⟨w1.heap.size, 0, none⟩ (Value.slice (some ⟨gg, 0, none⟩) (RR.length + 1) cap)) = wB at *
                clear hw hHeld t0 t1 t2 t3
                have x8 := cell_below hb6.out XQ.out hbz
                have y1 := HY6.out.2.1
                have z1 : ∀ O, (wB.alloc O).cell? ⟨w1.heap.size, 1, none⟩ = some l := fun O => cell_old O y1
                have i6 := HI.out
                have HA6 := Lib.hid (show ∀ (W W3 : World) (o : Option Nat), (W.cell? ⟨bz, oz + k, none⟩ = some (.int .i64 z) ∧ wB.heap.size ≤ W.heap.size ∧ Below w1.heap.size w1 W) → W.grownBy W3 o → (∀ g, o = some g → w1.heap.size ≤ g ∧ g ≠ w1.heap.size) → (W3.cell? ⟨bz, oz + k, none⟩ = some (.int .i64 z) ∧ wB.heap.size ≤ W3.heap.size ∧ Below w1.heap.size w1 W3) from fun W W3 o hS hg ho => by
                  have nf : ∀ q, some q = o → q < w1.heap.size → False := fun q e h => by have := (ho q e.symm).1; omega
                  exact ⟨hg.cell hS.1 (fun e => nf _ e (by simp; omega)), Nat.le_trans hS.2.1 hg.size, hS.2.2.grown hg (by have := hS.2.1; omega) (fun g e => (ho g e).1)⟩)
                go_wp2_with (at_builtin; refine wpList_append_lies _ rfl _ _ 22 rfl w1.heap.size 3 iI (.int .i64 0) 1 8 Try.underlying22 hi' hz0' hz1' hz2' rfl (by decide) l LL.length (LL.map (Value.int .i64)) rfl (HO6.out.2.2.2.1.alloc _) ⟨wB.heap.size, 0, none⟩ 1 1 [.int .i64 (2 * z - 1)] rfl rfl (World.news_of_block (cs := #[.int .i64 (2 * z - 1)]) (t := 3) (fr := (0, 0)) (heap_alloc_new wB _)) (by simp [Value.oneCell']) (by omega) (by have := HLl.out; unfold maxLen; omega) (by have := HLl.out; omega) (by simp; omega) (wB.heap.size + 1) (by simp) ?_; intro gg2 cap2 w5 hown2 hgrow2 hat2 hlt2; refine Hid.out ?_)
                refine Lib.hid ?_
                have hv8 := fun g e => And.intro (HO6.out.2.2.2.1.lt g e).1 (HO6.out.2.2.2.2.1 g e).1
                have hO5 := Lib.hid (Out.label (W := wB) (O := (.cells #[.int .i64 (2 * z - 1)] 3)) HO6.out (Nat.le_refl _) (by omega) hgrow2 hown2 hat2 hlt2)
                obtain ⟨t0, t1, t2, t3⟩ := HQ.out (wB.alloc (.cells #[.int .i64 (2 * z - 1)] 3)) _ _ _ _ ⟨cell_old _ HY6.out.1, cell_old _ HY6.out.2.1, fro_old _ (by omega) HY6.out.2.2.1, fro_old _ (by omega) HY6.out.2.2.2⟩ hgrow2 hv8 (by simp; omega)
                have hx5 := Lib.hid (HA6.out (wB.alloc (.cells #[.int .i64 (2 * z - 1)] 3)) _ _ ⟨cell_old _ x8, by simp, hb6.out.alloc (by omega) _⟩ hgrow2 hv8)
                have hHeld : (w5.setCell ⟨w1.heap.size, 1, none⟩ (Value.slice (some ⟨gg2, 0, none⟩) (LL.length + 1) cap2)).cell? ⟨bz, oz + k, none⟩ = some (.int .i64 z) ∧ wB.heap.size ≤ (w5.setCell ⟨w1.heap.size, 1, none⟩ (Value.slice (some ⟨gg2, 0, none⟩) (LL.length + 1) cap2)).heap.size ∧ Below w1.heap.size w1 (w5.setCell ⟨w1.heap.size, 1, none⟩ (Value.slice (some ⟨gg2, 0, none⟩) (LL.length + 1) cap2)) := ⟨cell_set hx5.out.1 (by simp; omega) _, by rw [size_set]; exact hx5.out.2.1, hx5.out.2.2.setCell (by simp) _⟩
                clear hown2 hgrow2 hat2
                have HO7 := Lib.hid (show Out w1.heap.size (w1.heap.size) (w5.setCell ⟨w1.heap.size, 1, none⟩ (Value.slice (some ⟨gg2, 0, none⟩) (LL.length + 1) cap2)).heap.size (w5.setCell ⟨w1.heap.size, 1, none⟩ (Value.slice (some ⟨gg2, 0, none⟩) (LL.length + 1) cap2)) (Value.slice (some ⟨gg, 0, none⟩) (RR.length + 1) cap) (Value.slice (some ⟨gg2, 0, none⟩) (LL.length + 1) cap2) (cs ++ [.slice p1 r.length q1]) (RR ++ [r]) (LL ++ [2 * z - 1]) from by rw [size_set]; exact hO5.out.set 1 _)
                have HY7 := Lib.hid (show (w5.setCell ⟨w1.heap.size, 1, none⟩ (Value.slice (some ⟨gg2, 0, none⟩) (LL.length + 1) cap2)).cell? ⟨w1.heap.size, 0, none⟩ = some ((Value.slice (some ⟨gg, 0, none⟩) (RR.length + 1) cap)) ∧ (w5.setCell ⟨w1.heap.size, 1, none⟩ (Value.slice (some ⟨gg2, 0, none⟩) (LL.length + 1) cap2)).cell? ⟨w1.heap.size, 1, none⟩ = some ((Value.slice (some ⟨gg2, 0, none⟩) (LL.length + 1) cap2)) ∧ (w5.setCell ⟨w1.heap.size, 1, none⟩ (Value.slice (some ⟨gg2, 0, none⟩) (LL.length + 1) cap2)).frozen? ⟨w1.heap.size, 0, none⟩ = false ∧ (w5.setCell ⟨w1.heap.size, 1, none⟩ (Value.slice (some ⟨gg2, 0, none⟩) (LL.length + 1) cap2)).frozen? ⟨w1.heap.size, 1, none⟩ = false from ⟨(World.cell?_setCell_other _ _ _ _ (by simp)).trans t0, World.cell?_setCell_same _ _ _ t1, by rw [World.frozen?_setCell]; exact t2, by rw [World.frozen?_setCell]; exact t3⟩)
                have hb7 := Lib.hid hHeld.2.2
                have hs7 : w1.heap.size + 1 ≤ (w5.setCell ⟨w1.heap.size, 1, none⟩ (Value.slice (some ⟨gg2, 0, none⟩) (LL.length + 1) cap2)).heap.size := by have := hHeld.2.1; omega
                clear hHeld
                go_wp2_with fail
                go_roundw
                case rel => exact ⟨k + 1, _, _, _, by omega, by go_num, HY7, by rw [HSR.out, HSL.out]; exact HO7, hb7, hs7⟩
                case measure => simp [intOf]; omega
              exact AllReadyH.nil
            exact AllReadyH.nil
          exact AllReadyH.nil
        refine AllReadyH.cons rfl (fun K hK => ?_) ?_
        · go_simp
          refine hK.out _ _ ?_ (fun hHeld => ?_)
          · exact ⟨Nat.le_trans hbx.1 (by simp), hbx.2.alloc (by have := hbx.1; omega) _⟩
          clear hK K
          try simp only [List.getElem_toArray, List.getElem_cons_succ, List.getElem_cons_zero, Act.put, List.setIfInBounds_toArray, List.set_cons_zero, List.set_cons_succ]
          refine wpAnyH_ready (rs := [1]) (by kernel_rfl) (by simp) ?_
          refine AllReadyH.cons rfl (fun K hK => ?_) ?_
          · go_simp
            refine hK.out _ _ ?_ (fun hHeld => ?_)
            · exact hHeld
            clear hK K
            try simp only [List.getElem_toArray, List.getElem_cons_succ, List.getElem_cons_zero, Act.put, List.setIfInBounds_toArray, List.set_cons_zero, List.set_cons_succ]
            refine wpAnyH_ready (rs := [6]) (by kernel_rfl) (by simp) ?_
            refine AllReadyH.cons rfl (fun K hK => ?_) ?_
            · (refine step_append_lies _ (by rfl) _ _ _ (by rfl) w1.heap.size 22 i0 _ 1 24 Try.underlying28 hi hz0 hz1 hz2 rfl (by omega) v RR.length cs (by rfl) (hO1.out.1.alloc _) ⟨va.heap.size, 0, none⟩ 1 1 [.slice p1 r.length q1] (by rfl) (by rfl) (World.news_of_block (cs := #[.slice p1 r.length q1]) (t := 22) (fr := (0, 0)) (heap_alloc_new va _)) (by simp [Value.oneCell']) (by omega) (by have := HRl.out; unfold maxLen; omega) (by have := HRl.out; omega) (Nat.le_trans (by omega) (Nat.le_trans hx1.out.1 (by simp))) (va.heap.size + 1) (by simp) ?_)
              intro gg cap w3 hown1 hgrow hat hlt'
              have hv9 := fun g e => And.intro (hO1.out.1.lt g e).1 (hO1.out.2.1 g e).1
              have hO3 := Lib.hid (Out.row hO1.out ho1.out hx1.out.1 (by omega) hgrow hown1 hat hlt')
              obtain ⟨t0, t1, t2, t3⟩ := HQ.out _ _ _ _ _ ⟨cell_old _ q0_0, cell_old _ q0_1, fro_old _ (by have := hx1.out.1; omega) q0_2, fro_old _ (by have := hx1.out.1; omega) q0_3⟩ hgrow hv9 (by have := hx1.out.1; simp; omega)
              have hx3 := Lib.hid (HA5.out _ _ _ ⟨Nat.le_trans hx1.out.1 (by simp), hx1.out.2.alloc (by have := hx1.out.1; omega) _⟩ hgrow hv9)
              clear hown1 hgrow hat hv9
              refine hK.out _ _ ?_ (fun hHeld => ?_)
              · exact hx3.out
              clear hK K
              try simp only [List.getElem_toArray, List.getElem_cons_succ, List.getElem_cons_zero, Act.put, List.setIfInBounds_toArray, List.set_cons_zero, List.set_cons_succ]
              refine wpAnyH_take (i := 7) (v := ?_) rfl (by kernel_rfl) (by kernel_rfl) (by kernel_rfl) (fun _ _ _ h => h) (Or.inl ⟨by rfl, ?_⟩) (by assumption) ?_
              rotate_left
              · intro w9 hSw; (try dsimp only at hSw); go_simp; try with_reducible rfl
              try simp only [List.getElem_toArray, List.getElem_cons_succ, List.getElem_cons_zero, Act.put, List.setIfInBounds_toArray, List.set_cons_zero, List.set_cons_succ]
              refine wpAnyH_ready (rs := [8]) (by kernel_rfl) (by simp) ?_
              refine AllReadyH.cons rfl (fun K hK => ?_) ?_
              · go_simp
                refine hK.out _ _ ?_ (fun hHeld => ?_)
                · exact ⟨by rw [size_set]; exact hx3.out.1, hx3.out.2.setCell (by simp) _⟩
                clear hK K
                try simp only [List.getElem_toArray, List.getElem_cons_succ, List.getElem_cons_zero, Act.put, List.setIfInBounds_toArray, List.set_cons_zero, List.set_cons_succ]
                refine wpAnyH_done (by kernel_rfl) ?_ _
                refine NoPanic.normal ?_
                have HO6 := Lib.hid (show Out w1.heap.size (w1.heap.size) (w3.setCell ⟨w1.heap.size, 0, none⟩ (Value.slice (some ⟨gg, 0, none⟩) (RR.length + 1) cap)).heap.size (w3.setCell ⟨w1.heap.size, 0, none⟩ (Value.slice (some ⟨gg, 0, none⟩) (RR.length + 1) cap)) (Value.slice (some ⟨gg, 0, none⟩) (RR.length + 1) cap) l (cs ++ [.slice p1 r.length q1]) (RR ++ [r]) LL from by rw [size_set]; exact hO3.out.set 0 _)
                have HY6 := Lib.hid (show (w3.setCell ⟨w1.heap.size, 0, none⟩ (Value.slice (some ⟨gg, 0, none⟩) (RR.length + 1) cap)).cell? ⟨w1.heap.size, 0, none⟩ = some ((Value.slice (some ⟨gg, 0, none⟩) (RR.length + 1) cap)) ∧ (w3.setCell ⟨w1.heap.size, 0, none⟩ (Value.slice (some ⟨gg, 0, none⟩) (RR.length + 1) cap)).cell? ⟨w1.heap.size, 1, none⟩ = some (l) ∧ (w3.setCell ⟨w1.heap.size, 0, none⟩ (Value.slice (some ⟨gg, 0, none⟩) (RR.length + 1) cap)).frozen? ⟨w1.heap.size, 0, none⟩ = false ∧ (w3.setCell ⟨w1.heap.size, 0, none⟩ (Value.slice (some ⟨gg, 0, none⟩) (RR.length + 1) cap)).frozen? ⟨w1.heap.size, 1, none⟩ = false from ⟨World.cell?_setCell_same _ _ _ t0, (World.cell?_setCell_other _ _ _ _ (by simp)).trans t1, by rw [World.frozen?_setCell]; exact t2, by rw [World.frozen?_setCell]; exact t3⟩)
                have hb6 := Lib.hid hHeld.2
                have hs6 : w1.heap.size + 1 ≤ (w3.setCell ⟨w1.heap.size, 0, none⟩ (Value.slice (some ⟨gg, 0, none⟩) (RR.length + 1) cap)).heap.size := by have := hHeld.1; omega
                generalize hw : (w3.setCell ⟨w1.heap.size, 0, none⟩ (Value.slice (some ⟨gg, 0, none⟩) (RR.length + 1) cap)) = wB at *
                clear hw hHeld t0 t1 t2 t3
                have x8 := cell_below hb6.out XQ.out hbz
                have y1 := HY6.out.2.1
                have z1 : ∀ O, (wB.alloc O).cell? ⟨w1.heap.size, 1, none⟩ = some l := fun O => cell_old O y1
                have i6 := HI.out
                have HA6 := Lib.hid (show ∀ (W W3 : World) (o : Option Nat), (W.cell? ⟨bz, oz + k, none⟩ = some (.int .i64 z) ∧ wB.heap.size ≤ W.heap.size ∧ Below w1.heap.size w1 W) → W.grownBy W3 o → (∀ g, o = some g → w1.heap.size ≤ g ∧ g ≠ w1.heap.size) → (W3.cell? ⟨bz, oz + k, none⟩ = some (.int .i64 z) ∧ wB.heap.size ≤ W3.heap.size ∧ Below w1.heap.size w1 W3) from fun W W3 o hS hg ho => by
                  have nf : ∀ q, some q = o → q < w1.heap.size → False := fun q e h => by have := (ho q e.symm).1; omega
                  exact ⟨hg.cell hS.1 (fun e => nf _ e (by simp; omega)), Nat.le_trans hS.2.1 hg.size, hS.2.2.grown hg (by have := hS.2.1; omega) (fun g e => (ho g e).1)⟩)
                go_wp2_with (at_builtin; refine wpList_append_lies _ rfl _ _ 22 rfl w1.heap.size 3 iI (.int .i64 0) 1 8 Try.underlying22 hi' hz0' hz1' hz2' rfl (by decide) l LL.length (LL.map (Value.int .i64)) rfl (HO6.out.2.2.2.1.alloc _) ⟨wB.heap.size, 0, none⟩ 1 1 [.int .i64 (2 * z - 1)] rfl rfl (World.news_of_block (cs := #[.int .i64 (2 * z - 1)]) (t := 3) (fr := (0, 0)) (heap_alloc_new wB _)) (by simp [Value.oneCell']) (by omega) (by have := HLl.out; unfold maxLen; omega) (by have := HLl.out; omega) (by simp; omega) (wB.heap.size + 1) (by simp) ?_; intro gg2 cap2 w5 hown2 hgrow2 hat2 hlt2; refine Hid.out ?_)
                refine Lib.hid ?_
                have hv8 := fun g e => And.intro (HO6.out.2.2.2.1.lt g e).1 (HO6.out.2.2.2.2.1 g e).1
                have hO5 := Lib.hid (Out.label (W := wB) (O := (.cells #[.int .i64 (2 * z - 1)] 3)) HO6.out (Nat.le_refl _) (by omega) hgrow2 hown2 hat2 hlt2)
                obtain ⟨t0, t1, t2, t3⟩ := HQ.out (wB.alloc (.cells #[.int .i64 (2 * z - 1)] 3)) _ _ _ _ ⟨cell_old _ HY6.out.1, cell_old _ HY6.out.2.1, fro_old _ (by omega) HY6.out.2.2.1, fro_old _ (by omega) HY6.out.2.2.2⟩ hgrow2 hv8 (by simp; omega)
                have hx5 := Lib.hid (HA6.out (wB.alloc (.cells #[.int .i64 (2 * z - 1)] 3)) _ _ ⟨cell_old _ x8, by simp, hb6.out.alloc (by omega) _⟩ hgrow2 hv8)
                have hHeld : (w5.setCell ⟨w1.heap.size, 1, none⟩ (Value.slice (some ⟨gg2, 0, none⟩) (LL.length + 1) cap2)).cell? ⟨bz, oz + k, none⟩ = some (.int .i64 z) ∧ wB.heap.size ≤ (w5.setCell ⟨w1.heap.size, 1, none⟩ (Value.slice (some ⟨gg2, 0, none⟩) (LL.length + 1) cap2)).heap.size ∧ Below w1.heap.size w1 (w5.setCell ⟨w1.heap.size, 1, none⟩ (Value.slice (some ⟨gg2, 0, none⟩) (LL.length + 1) cap2)) := ⟨cell_set hx5.out.1 (by simp; omega) _, by rw [size_set]; exact hx5.out.2.1, hx5.out.2.2.setCell (by simp) _⟩
                clear hown2 hgrow2 hat2
                have HO7 := Lib.hid (show Out w1.heap.size (w1.heap.size) (w5.setCell ⟨w1.heap.size, 1, none⟩ (Value.slice (some ⟨gg2, 0, none⟩) (LL.length + 1) cap2)).heap.size (w5.setCell ⟨w1.heap.size, 1, none⟩ (Value.slice (some ⟨gg2, 0, none⟩) (LL.length + 1) cap2)) (Value.slice (some ⟨gg, 0, none⟩) (RR.length + 1) cap) (Value.slice (some ⟨gg2, 0, none⟩) (LL.length + 1) cap2) (cs ++ [.slice p1 r.length q1]) (RR ++ [r]) (LL ++ [2 * z - 1]) from by rw [size_set]; exact hO5.out.set 1 _)
                have HY7 := Lib.hid (show (w5.setCell ⟨w1.heap.size, 1, none⟩ (Value.slice (some ⟨gg2, 0, none⟩) (LL.length + 1) cap2)).cell? ⟨w1.heap.size, 0, none⟩ = some ((Value.slice (some ⟨gg, 0, none⟩) (RR.length + 1) cap)) ∧ (w5.setCell ⟨w1.heap.size, 1, none⟩ (Value.slice (some ⟨gg2, 0, none⟩) (LL.length + 1) cap2)).cell? ⟨w1.heap.size, 1, none⟩ = some ((Value.slice (some ⟨gg2, 0, none⟩) (LL.length + 1) cap2)) ∧ (w5.setCell ⟨w1.heap.size, 1, none⟩ (Value.slice (some ⟨gg2, 0, none⟩) (LL.length + 1) cap2)).frozen? ⟨w1.heap.size, 0, none⟩ = false ∧ (w5.setCell ⟨w1.heap.size, 1, none⟩ (Value.slice (some ⟨gg2, 0, none⟩) (LL.length + 1) cap2)).frozen? ⟨w1.heap.size, 1, none⟩ = false from ⟨(World.cell?_setCell_other _ _ _ _ (by simp)).trans t0, World.cell?_setCell_same _ _ _ t1, by rw [World.frozen?_setCell]; exact t2, by rw [World.frozen?_setCell]; exact t3⟩)
                have hb7 := Lib.hid hHeld.2.2
                have hs7 : w1.heap.size + 1 ≤ (w5.setCell ⟨w1.heap.size, 1, none⟩ (Value.slice (some ⟨gg2, 0, none⟩) (LL.length + 1) cap2)).heap.size := by have := hHeld.2.1; omega
                clear hHeld
                go_wp2_with fail
                go_roundw
                case rel => exact ⟨k + 1, _, _, _, by omega, by go_num, HY7, by rw [HSR.out, HSL.out]; exact HO7, hb7, hs7⟩
                case measure => simp [intOf]; omega
              exact AllReadyH.nil
            exact AllReadyH.nil
          exact AllReadyH.nil
        exact AllReadyH.nil
      exact AllReadyH.nil
    · obtain rfl : k = zs.length := by omega
      have HS := Lib.hid (HO.out.toS (by omega))
      obtain ⟨y0, y1, _, _⟩ := HC.out
      obtain ⟨x0, x1, g0, g1⟩ := HX.out
      replace x0 := cell_below HBl.out x0 (by omega)
      replace x1 := cell_below HBl.out x1 (by omega)
      replace g0 := fro_below HBl.out g0 (by omega)
      replace g1 := fro_below HBl.out g1 (by omega)
      have HBE := Lib.hid (HBw.out.trans (HBl.out.mono (by omega)))
      have hs9 := HBl.out.size
      obtain ⟨p1, q1, rfl, _, _, _⟩ := HS.out.grid.slice
      obtain ⟨p2, q2, rfl, _, _, _⟩ := HS.out.ints.slice
      go_wp2_with fail
      refine bodyPost_ret (v := .tuple #[.agg #[.slice p1 (toldR n zs.length).length q1, .slice p2 (toldL zs zs.length).length q2], .bool true]) (by simp [results, Try.results82, go_sem, x0, x1]) rfl ⟨_, _, rfl, ?_, ?_⟩
      · simp only [size_set]; exact ((HS.out.set (by simp; omega) _).set (by simp; omega) _).mono (by omega) (Nat.le_refl _)
      · exact (HBE.out.setCell (by simp) _).setCell (by simp) _
end Go.Proofs.Ytoephhhofkmgjab.tablesample
