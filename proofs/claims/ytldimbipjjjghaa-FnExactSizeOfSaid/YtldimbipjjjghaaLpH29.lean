/- Several texts in one. -/
import Derived.Test.YtldimbipjjjghaaLpH23
import Derived.Test.YtldimbipjjjghaaLpH14
import Derived.Test.YtldimbipjjjghaaLpH10
namespace Go.Proofs.Ytldimbipjjjghaa.told
open Go.RowKit own own1 pp range samplefns rowscopy part bitw
set_option linter.unusedVariables false
set_option linter.unusedSimpArgs false
attribute [local go_sem ↓] Go.wp_at_zero Go.wp_at_succ

/-- The points and labels at the first k places of a table. -/
def toldR (n k : Nat) : List (List Int) := (List.range k).map fun j => bitsTo j n
def toldL (zs : List Int) (k : Nat) : List Int := (zs.take k).map fun z => 2 * z - 1
theorem toldR_length (n k : Nat) : (toldR n k).length = k := by simp [toldR]
theorem toldL_length (zs : List Int) (k : Nat) (h : k ≤ zs.length) : (toldL zs k).length = k := by simp [toldL]; omega
theorem toldR_succ (n k : Nat) : toldR n (k + 1) = toldR n k ++ [bitsTo k n] := by simp [toldR, List.range_succ]
theorem toldL_succ (zs : List Int) (k : Nat) (h : k < zs.length) : toldL zs (k + 1) = toldL zs k ++ [2 * zs.getD k 0 - 1] := by
  unfold toldL
  rw [List.take_add_one, List.getElem?_eq_getElem h, List.map_append, List.getD_eq_getElem?_getD, List.getElem?_eq_getElem h]
  simp
set_option maxRecDepth 100000 in
set_option maxHeartbeats 4000000 in
theorem spec_told (n : Nat) (a : Option Addr) (zs : List Int) (c : Nat) (w : World) (hr : ints.Reads .i64 w a zs) (h4 : n ≤ 4) (hm : zs.length ≤ 16) (hBt : numsR 0 1 zs = true) :
    Calls Try.prog 128 #[.int .i64 n, .slice a zs.length c] w (MadeS (toldR n zs.length) (toldL zs zs.length) w) := by
  obtain ⟨i0, hi, hz0, hz1, hz2⟩ := info_parts infoInts
  obtain ⟨iI, hi', hz0', hz1', hz2'⟩ := info_parts own1.infoInt
  have Hhr := Lib.hid hr
  have HhBt := Lib.hid hBt
  clear hr hBt
  go_enter Try.func128, Try.ntmps128
  go_wp2_with fail
  have x0_0 : (w.alloc (.cells #[.slice none 0 0, .slice none 0 0] 31)).cell? ⟨w.heap.size, 0, none⟩ = some (.slice none 0 0) := cell_new _ _ _ (by simp) rfl
  have x0_1 : (w.alloc (.cells #[.slice none 0 0, .slice none 0 0] 31)).cell? ⟨w.heap.size, 1, none⟩ = some (.slice none 0 0) := cell_new _ _ _ (by simp) rfl
  have f0_0 : (w.alloc (.cells #[.slice none 0 0, .slice none 0 0] 31)).frozen? ⟨w.heap.size, 0, none⟩ = false := fro_new _ _ _ (by simp)
  have f0_1 : (w.alloc (.cells #[.slice none 0 0, .slice none 0 0] 31)).frozen? ⟨w.heap.size, 1, none⟩ = false := fro_new _ _ _ (by simp)
  have HB0 := Lib.hid (below_alloc w (.cells #[.slice none 0 0, .slice none 0 0] 31))
  have s0 : w.heap.size + 1 ≤ (w.alloc (.cells #[.slice none 0 0, .slice none 0 0] 31)).heap.size := by simp
  generalize hw : (w.alloc (.cells #[.slice none 0 0, .slice none 0 0] 31)) = w0 at *
  have EW := Lib.hid (show w.heap.size + 1 = w0.heap.size from by rw [← hw]; simp)
  clear hw
  have n0_0 : w.heap.size < w0.heap.size := by omega
  rw [EW.out]
  have HBt := HhBt
  have HX := Lib.hid (show w0.cell? ⟨w.heap.size, 0, none⟩ = some (.slice none 0 0) ∧ w0.cell? ⟨w.heap.size, 1, none⟩ = some (.slice none 0 0) ∧ w0.frozen? ⟨w.heap.size, 0, none⟩ = false ∧ w0.frozen? ⟨w.heap.size, 1, none⟩ = false from ⟨x0_0, x0_1, f0_0, f0_1⟩)
  have HBI := Lib.hid (((below_alloc w0 (.cells #[] 23)).alloc (by simp) (.cells #[] 3)).alloc (by simp; omega) (.cells #[.slice (some ⟨w0.heap.size, 0, none⟩) 0 0, .slice (some ⟨w0.heap.size + 1, 0, none⟩) 0 0] 31))
  have HY := Lib.hid (show (((w0.alloc (.cells #[] 23)).alloc (.cells #[] 3)).alloc (.cells #[.slice (some ⟨w0.heap.size, 0, none⟩) 0 0, .slice (some ⟨w0.heap.size + 1, 0, none⟩) 0 0] 31)).cell? ⟨w0.heap.size + 2, 0, none⟩ = some (.slice (some ⟨w0.heap.size, 0, none⟩) 0 0) ∧ (((w0.alloc (.cells #[] 23)).alloc (.cells #[] 3)).alloc (.cells #[.slice (some ⟨w0.heap.size, 0, none⟩) 0 0, .slice (some ⟨w0.heap.size + 1, 0, none⟩) 0 0] 31)).cell? ⟨w0.heap.size + 2, 1, none⟩ = some (.slice (some ⟨w0.heap.size + 1, 0, none⟩) 0 0) ∧ (((w0.alloc (.cells #[] 23)).alloc (.cells #[] 3)).alloc (.cells #[.slice (some ⟨w0.heap.size, 0, none⟩) 0 0, .slice (some ⟨w0.heap.size + 1, 0, none⟩) 0 0] 31)).frozen? ⟨w0.heap.size + 2, 0, none⟩ = false ∧ (((w0.alloc (.cells #[] 23)).alloc (.cells #[] 3)).alloc (.cells #[.slice (some ⟨w0.heap.size, 0, none⟩) 0 0, .slice (some ⟨w0.heap.size + 1, 0, none⟩) 0 0] 31)).frozen? ⟨w0.heap.size + 2, 1, none⟩ = false from ⟨cell_new _ _ _ (by simp) rfl, cell_new _ _ _ (by simp) rfl, fro_new _ _ _ (by simp), fro_new _ _ _ (by simp)⟩)
  have HO1 := Lib.hid (show Out w0.heap.size (w0.heap.size + 2) (((w0.alloc (.cells #[] 23)).alloc (.cells #[] 3)).alloc (.cells #[.slice (some ⟨w0.heap.size, 0, none⟩) 0 0, .slice (some ⟨w0.heap.size + 1, 0, none⟩) 0 0] 31)).heap.size (((w0.alloc (.cells #[] 23)).alloc (.cells #[] 3)).alloc (.cells #[.slice (some ⟨w0.heap.size, 0, none⟩) 0 0, .slice (some ⟨w0.heap.size + 1, 0, none⟩) 0 0] 31)) (.slice (some ⟨w0.heap.size, 0, none⟩) 0 0) (.slice (some ⟨w0.heap.size + 1, 0, none⟩) 0 0) [] [] [] from
    ⟨((World.ownsRow_made (base := w0.heap.size) (e := 23) (size := 1) w0 #[] 0 (Nat.le_refl _) (by unfold maxLen; omega) rfl).alloc _).alloc _, (fun g e => by (have h9 : w0.heap.size = g := by simpa [Value.ownBlock] using e); simp; omega), RowsOf.nil _ _ _,
      by
        have := ((World.ownsRow_made (base := w0.heap.size) (e := 3) (size := 1) (w0.alloc (.cells #[] 23)) #[] 0 (by simp) (by unfold maxLen; omega) rfl).alloc (.cells #[.slice (some ⟨w0.heap.size, 0, none⟩) 0 0, .slice (some ⟨w0.heap.size + 1, 0, none⟩) 0 0] 31))
        simpa using this,
      (fun g e => by (have h9 : w0.heap.size + 1 = g := by simpa [Value.ownBlock] using e); simp; omega), fun g e hb => by obtain ⟨i, h9, _⟩ := hb; simp at h9⟩)
  have sI : w0.heap.size + 2 + 1 ≤ (((w0.alloc (.cells #[] 23)).alloc (.cells #[] 3)).alloc (.cells #[.slice (some ⟨w0.heap.size, 0, none⟩) 0 0, .slice (some ⟨w0.heap.size + 1, 0, none⟩) 0 0] 31)).heap.size := by simp
  rw [show w0.heap.size + 1 + 1 = w0.heap.size + 2 from rfl]
  clear s0 x0_0 x0_1 f0_0 f0_1
  go_loopw [6] (fun i wr => ∃ (k : Nat) (v l : Value) (cs : List Value), k ≤ zs.length ∧ i = .int .i64 k ∧ Hid (wr.cell? ⟨w0.heap.size + 2, 0, none⟩ = some (v) ∧ wr.cell? ⟨w0.heap.size + 2, 1, none⟩ = some (l) ∧ wr.frozen? ⟨w0.heap.size + 2, 0, none⟩ = false ∧ wr.frozen? ⟨w0.heap.size + 2, 1, none⟩ = false) ∧ Hid (Out w0.heap.size (w0.heap.size + 2) wr.heap.size wr v l cs (toldR n k) (toldL zs k)) ∧ Hid (Below w0.heap.size w0 wr) ∧ w0.heap.size + 2 + 1 ≤ wr.heap.size) (fun i _ => zs.length - (intOf i).toNat)
  case atStart => exact ⟨0, _, _, [], Nat.zero_le _, rfl, HY, HO1, HBI, sI⟩
  case round =>
    obtain ⟨k, v, l, cs, hk, rfl, HC, HO, HBl, hsz⟩ := hrel
    clear sI
    by_cases hlt : k < zs.length
    · obtain ⟨bz, oz, rfl, hbz, hcz⟩ := (Hhr.out.below HB0.out).at hlt
      have y0 := HC.out.1
      have hbit := numsR_at HBt.out k hlt
      have HSR := Lib.hid (toldR_succ n k)
      have HSL := Lib.hid (toldL_succ zs k hlt)
      have hRl := toldR_length n k
      have hLl := toldL_length zs k hk
      have hrl := bitsTo_length k n
      have xz := cell_below HBl.out hcz hbz
      have HT0 := Lib.hid (show ∀ wa : World, (wr.heap.size ≤ wa.heap.size ∧ Below w0.heap.size w0 wa) → (wa.cell? ⟨w0.heap.size + 2, 0, none⟩ = some (v) ∧ wa.cell? ⟨w0.heap.size + 2, 1, none⟩ = some (l) ∧ wa.frozen? ⟨w0.heap.size + 2, 0, none⟩ = false ∧ wa.frozen? ⟨w0.heap.size + 2, 1, none⟩ = false) → (Out w0.heap.size (w0.heap.size + 2) wr.heap.size wa v l cs (toldR n k) (toldL zs k)) → Calls Try.prog 130 #[.int .i64 n, .int .i64 k] wa (fun e w' => ∃ (p1 : Option Addr) (q1 : Nat), e = .returned (.slice p1 (bitsTo k n).length q1) ∧ OwnI wr.heap.size w'.heap.size w' (.slice p1 (bitsTo k n).length q1) (bitsTo k n) ∧ (Out w0.heap.size (w0.heap.size + 2) wr.heap.size w' v l cs (toldR n k) (toldL zs k)) ∧ (w'.cell? ⟨w0.heap.size + 2, 0, none⟩ = some (v) ∧ w'.cell? ⟨w0.heap.size + 2, 1, none⟩ = some (l) ∧ w'.frozen? ⟨w0.heap.size + 2, 0, none⟩ = false ∧ w'.frozen? ⟨w0.heap.size + 2, 1, none⟩ = false) ∧ wr.heap.size ≤ w'.heap.size ∧ Below w0.heap.size w0 w') from fun wa hS hQ hO => by
        have hwz := hS.1
        have hB := hS.2
        refine (spec_bits n k wa h4 (by omega)).mono ?_
        rintro e w' ⟨v', rfl, ho, hb⟩
        obtain ⟨p1, q1, rfl, _, _, _⟩ := ho.slice
        exact ⟨p1, q1, rfl, ho.mono hwz (Nat.le_refl _), hO.below hb, ⟨cell_below hb hQ.1 (by omega), cell_below hb hQ.2.1 (by omega), fro_below hb hQ.2.2.1 (by omega), fro_below hb hQ.2.2.2 (by omega)⟩, Nat.le_trans hwz hb.size, hB.trans (hb.mono (by omega))⟩)
      have XQ := Lib.hid (show w0.cell? ⟨bz, oz + k, none⟩ = some (.int .i64 (zs.getD k 0)) from hcz)
      generalize bitsTo k n = r at *
      generalize zs.getD k 0 = z at *
      generalize toldR n k = RR at *
      generalize toldL zs k = LL at *
      have e1 : IntKind.i64.wrap (2 * z) = 2 * z := IntWalk.i64_in _ (by omega)
      have e2 : IntKind.i64.wrap (2 * z - 1) = 2 * z - 1 := IntWalk.i64_in _ (by omega)
      have HRl := Lib.hid hRl
      have HLl := Lib.hid hLl
      have i1 : (0 : Int) ≤ (k : Int) := by omega
      have i2 : (k : Int) < (zs.length : Int) := by omega
      have HI := Lib.hid i2
      clear hRl hLl hrl hbit hcz
      have HA5 := Lib.hid (show ∀ (W W3 : World) (o : Option Nat), (wr.heap.size ≤ W.heap.size ∧ Below w0.heap.size w0 W) → W.grownBy W3 o → (∀ g, o = some g → w0.heap.size ≤ g ∧ g ≠ w0.heap.size + 2) → (wr.heap.size ≤ W3.heap.size ∧ Below w0.heap.size w0 W3) from fun W W3 o hS hg ho => by
        have nf : ∀ q, some q = o → q < w0.heap.size → False := fun q e h => by have := (ho q e.symm).1; omega
        exact ⟨Nat.le_trans hS.1 hg.size, hS.2.grown hg (by have := hS.1; omega) (fun g e => (ho g e).1)⟩)
      have HQ := Lib.hid (show ∀ (W W3 : World) (o : Option Nat) (v l : Value), (W.cell? ⟨w0.heap.size + 2, 0, none⟩ = some (v) ∧ W.cell? ⟨w0.heap.size + 2, 1, none⟩ = some (l) ∧ W.frozen? ⟨w0.heap.size + 2, 0, none⟩ = false ∧ W.frozen? ⟨w0.heap.size + 2, 1, none⟩ = false) → W.grownBy W3 o → (∀ g, o = some g → w0.heap.size ≤ g ∧ g ≠ w0.heap.size + 2) → w0.heap.size + 2 < W.heap.size → (W3.cell? ⟨w0.heap.size + 2, 0, none⟩ = some (v) ∧ W3.cell? ⟨w0.heap.size + 2, 1, none⟩ = some (l) ∧ W3.frozen? ⟨w0.heap.size + 2, 0, none⟩ = false ∧ W3.frozen? ⟨w0.heap.size + 2, 1, none⟩ = false) from fun W W3 o v l hQ hg ho hB => by
        have nf : ∀ q, some q = o → q = w0.heap.size + 2 → False := fun q e h => (ho q e.symm).2 h
        exact ⟨hg.cell hQ.1 (fun e => nf _ e rfl), hg.cell hQ.2.1 (fun e => nf _ e rfl), (hg.frozen_far ⟨w0.heap.size + 2, 0, none⟩ hB (fun e => nf _ e rfl)).trans hQ.2.2.1, (hg.frozen_far ⟨w0.heap.size + 2, 1, none⟩ hB (fun e => nf _ e rfl)).trans hQ.2.2.2⟩)
      go_wp2_with fail
      refine wp_region_noPanic ?_
      refine wp_region_held_drew (S := fun w' => wr.heap.size ≤ w'.heap.size ∧ Below w0.heap.size w0 w') (by kernel_rfl) ?_ (fun hHeld => ?_)
      · exact ⟨Nat.le_refl _, HBl.out.drew⟩
      refine wpAnyH_take (i := 0) (v := ?_) rfl (by kernel_rfl) (by kernel_rfl) (by kernel_rfl) (fun _ _ _ h => h) (Or.inl ⟨by rfl, ?_⟩) (by assumption) ?_
      rotate_left
      · intro w9 hSw; (try dsimp only at hSw); go_simp; try with_reducible rfl
      try simp only [List.getElem_toArray, List.getElem_cons_succ, List.getElem_cons_zero, Act.put, List.setIfInBounds_toArray, List.set_cons_zero, List.set_cons_succ]
      refine wpAnyH_take (i := 2) (v := ?_) rfl (by kernel_rfl) (by kernel_rfl) (by kernel_rfl) (fun _ _ _ h => h) (Or.inl ⟨by rfl, ?_⟩) (by assumption) ?_
      rotate_left
      · intro w9 hSw; (try dsimp only at hSw); go_simp; try with_reducible rfl
      try simp only [List.getElem_toArray, List.getElem_cons_succ, List.getElem_cons_zero, Act.put, List.setIfInBounds_toArray, List.set_cons_zero, List.set_cons_succ]
      refine wpAnyH_take (i := 3) (v := ?_) rfl (by kernel_rfl) (by kernel_rfl) (by kernel_rfl) (fun _ _ _ h => h) (Or.inl ⟨by rfl, ?_⟩) (by assumption) ?_
      rotate_left
      · intro w9 hSw; (try dsimp only at hSw); go_simp; try with_reducible rfl
      try simp only [List.getElem_toArray, List.getElem_cons_succ, List.getElem_cons_zero, Act.put, List.setIfInBounds_toArray, List.set_cons_zero, List.set_cons_succ]
      refine wpAnyH_ready (rs := [1, 4]) (by kernel_rfl) (by simp) ?_
      refine AllReadyH.cons rfl (fun K hK => ?_) ?_
      · go_simp
        refine hK.out _ _ ?_ (fun hHeld => ?_)
        · exact hHeld
        clear hK K
        try simp only [List.getElem_toArray, List.getElem_cons_succ, List.getElem_cons_zero, Act.put, List.setIfInBounds_toArray, List.set_cons_zero, List.set_cons_succ]
        refine wpAnyH_ready (rs := [4]) (by kernel_rfl) (by simp) ?_
        refine AllReadyH.cons rfl (fun K hK => ?_) ?_
        · go_simp
          refine Calls.mono (HT0.out _ ?_ ?_ ?_) ?_
          · exact hHeld
          · exact HC.out
          · exact HO.out.below (Below.refl _ _).drew
          rintro e va ⟨p1, q1, rfl, ho0, hO0, ⟨q0_0, q0_1, q0_2, q0_3⟩, hbx⟩
          have z0 : ∀ O, (va.alloc O).cell? ⟨w0.heap.size + 2, 0, none⟩ = some v := fun O => cell_old O q0_0
          have hx1 := Lib.hid hbx
          have hO1 := Lib.hid hO0
          have ho1 := Lib.hid ho0
          clear hO0 ho0
          refine hK.out _ _ ?_ (fun hHeld => ?_)
          · exact hbx
          clear hK K
          try simp only [List.getElem_toArray, List.getElem_cons_succ, List.getElem_cons_zero, Act.put, List.setIfInBounds_toArray, List.set_cons_zero, List.set_cons_succ]
          refine wpAnyH_ready (rs := [5]) (by kernel_rfl) (by simp) ?_
          refine AllReadyH.cons rfl (fun K hK => ?_) ?_
          · go_simp
            refine hK.out _ _ ?_ (fun hHeld => ?_)
            · exact ⟨Nat.le_trans hbx.1 (by simp), hbx.2.alloc (by have := hbx.1; omega) _⟩
            clear hK K
            try simp only [List.getElem_toArray, List.getElem_cons_succ, List.getElem_cons_zero, Act.put, List.setIfInBounds_toArray, List.set_cons_zero, List.set_cons_succ]
            refine wpAnyH_ready (rs := [6]) (by kernel_rfl) (by simp) ?_
            refine AllReadyH.cons rfl (fun K hK => ?_) ?_
            · (refine step_append_lies _ (by rfl) _ _ _ (by rfl) w0.heap.size 23 i0 _ 1 24 Try.underlying22 hi hz0 hz1 hz2 rfl (by omega) v RR.length cs (by rfl) (hO1.out.1.alloc _) ⟨va.heap.size, 0, none⟩ 1 1 [.slice p1 r.length q1] (by rfl) (by rfl) (World.news_of_block (cs := #[.slice p1 r.length q1]) (t := 23) (fr := (0, 0)) (heap_alloc_new va _)) (by simp [Value.oneCell']) (by omega) (by have := HRl.out; unfold maxLen; omega) (by have := HRl.out; omega) (Nat.le_trans (by omega) (Nat.le_trans hx1.out.1 (by simp))) (va.heap.size + 1) (by simp) ?_)
              intro gg cap w3 hown1 hgrow hat hlt'
              have hv9 := fun g e => And.intro (hO1.out.1.lt g e).1 (hO1.out.2.1 g e).1
              have hO3 := Lib.hid (Out.row hO1.out ho1.out hx1.out.1 (by omega) hgrow hown1 hat hlt')
              obtain ⟨t0, t1, t2, t3⟩ := HQ.out _ _ _ _ _ ⟨cell_old _ q0_0, cell_old _ q0_1, fro_old _ (by have := hx1.out.1; omega) q0_2, fro_old _ (by have := hx1.out.1; omega) q0_3⟩ hgrow hv9 (by have := hx1.out.1; simp; omega)
              have hx3 := Lib.hid (HA5.out _ _ _ ⟨Nat.le_trans hx1.out.1 (by simp), hx1.out.2.alloc (by have := hx1.out.1; omega) _⟩ hgrow hv9)
              clear hown1 hgrow hat hv9
              refine hK.out _ _ ?_ (fun hHeld => ?_)
              · exact hx3.out
              clear hK K
              try simp only [List.getElem_toArray, List.getElem_cons_succ, List.getElem_cons_zero, Act.put, List.setIfInBounds_toArray, List.set_cons_zero, List.set_cons_succ]
              refine wpAnyH_take (i := 7) (v := ?_) rfl (by kernel_rfl) (by kernel_rfl) (by kernel_rfl) (fun _ _ _ h => h) (Or.inl ⟨by rfl, ?_⟩) (by assumption) ?_
              rotate_left
              · intro w9 hSw; (try dsimp only at hSw); go_simp; try with_reducible rfl
              try simp only [List.getElem_toArray, List.getElem_cons_succ, List.getElem_cons_zero, Act.put, List.setIfInBounds_toArray, List.set_cons_zero, List.set_cons_succ]
              refine wpAnyH_ready (rs := [8]) (by kernel_rfl) (by simp) ?_
              refine AllReadyH.cons rfl (fun K hK => ?_) ?_
              · go_simp
                refine hK.out _ _ ?_ (fun hHeld => ?_)
                · exact ⟨by rw [size_set]; exact hx3.out.1, hx3.out.2.setCell (by simp) _⟩
                clear hK K
                try simp only [List.getElem_toArray, List.getElem_cons_succ, List.getElem_cons_zero, Act.put, List.setIfInBounds_toArray, List.set_cons_zero, List.set_cons_succ]
                refine wpAnyH_done (by kernel_rfl) ?_ _
                refine NoPanic.normal ?_
                have HO6 := Lib.hid (show Out w0.heap.size (w0.heap.size + 2) (w3.setCell ⟨w0.heap.size + 2, 0, none⟩ (Value.slice (some ⟨gg, 0, none⟩) (RR.length + 1) cap)).heap.size (w3.setCell ⟨w0.heap.size + 2, 0, none⟩ (Value.slice (some ⟨gg, 0, none⟩) (RR.length + 1) cap)) (Value.slice (some ⟨gg, 0, none⟩) (RR.length + 1) cap) l (cs ++ [.slice p1 r.length q1]) (RR ++ [r]) LL from by rw [size_set]; exact hO3.out.set 0 _)
                have HY6 := Lib.hid (show (w3.setCell ⟨w0.heap.size + 2, 0, none⟩ (Value.slice (some ⟨gg, 0, none⟩) (RR.length + 1) cap)).cell? ⟨w0.heap.size + 2, 0, none⟩ = some ((Value.slice (some ⟨gg, 0, none⟩) (RR.length + 1) cap)) ∧ (w3.setCell ⟨w0.heap.size + 2, 0, none⟩ (Value.slice (some ⟨gg, 0, none⟩) (RR.length + 1) cap)).cell? ⟨w0.heap.size + 2, 1, none⟩ = some (l) ∧ (w3.setCell ⟨w0.heap.size + 2, 0, none⟩ (Value.slice (some ⟨gg, 0, none⟩) (RR.length + 1) cap)).frozen? ⟨w0.heap.size + 2, 0, none⟩ = false ∧ (w3.setCell ⟨w0.heap.size + 2, 0, none⟩ (Value.slice (some ⟨gg, 0, none⟩) (RR.length + 1) cap)).frozen? ⟨w0.heap.size + 2, 1, none⟩ = false from ⟨World.cell?_setCell_same _ _ _ t0, (World.cell?_setCell_other _ _ _ _ (by simp)).trans t1, by rw [World.frozen?_setCell]; exact t2, by rw [World.frozen?_setCell]; exact t3⟩)
                have hb6 := Lib.hid hHeld.2
                have hs6 : w0.heap.size + 2 + 1 ≤ (w3.setCell ⟨w0.heap.size + 2, 0, none⟩ (Value.slice (some ⟨gg, 0, none⟩) (RR.length + 1) cap)).heap.size := by have := hHeld.1; omega
                generalize hw : (w3.setCell ⟨w0.heap.size + 2, 0, none⟩ (Value.slice (some ⟨gg, 0, none⟩) (RR.length + 1) cap)) = wB at *
                clear hw hHeld t0 t1 t2 t3
                have x8 := cell_below hb6.out XQ.out hbz
                have y1 := HY6.out.2.1
                have z1 : ∀ O, (wB.alloc O).cell? ⟨w0.heap.size + 2, 1, none⟩ = some l := fun O => cell_old O y1
                have i6 := HI.out
                have HA6 := Lib.hid (show ∀ (W W3 : World) (o : Option Nat), (W.cell? ⟨bz, oz + k, none⟩ = some (.int .i64 z) ∧ wB.heap.size ≤ W.heap.size ∧ Below w0.heap.size w0 W) → W.grownBy W3 o → (∀ g, o = some g → w0.heap.size ≤ g ∧ g ≠ w0.heap.size + 2) → (W3.cell? ⟨bz, oz + k, none⟩ = some (.int .i64 z) ∧ wB.heap.size ≤ W3.heap.size ∧ Below w0.heap.size w0 W3) from fun W W3 o hS hg ho => by
                  have nf : ∀ q, some q = o → q < w0.heap.size → False := fun q e h => by have := (ho q e.symm).1; omega
                  exact ⟨hg.cell hS.1 (fun e => nf _ e (by simp; omega)), Nat.le_trans hS.2.1 hg.size, hS.2.2.grown hg (by have := hS.2.1; omega) (fun g e => (ho g e).1)⟩)
                go_wp2_with fail
                refine wp_region_noPanic ?_
                refine wp_region_held_drew (S := fun w' => w'.cell? ⟨bz, oz + k, none⟩ = some (.int .i64 z) ∧ wB.heap.size ≤ w'.heap.size ∧ Below w0.heap.size w0 w') (by kernel_rfl) ?_ (fun hHeld => ?_)
                · exact ⟨x8, Nat.le_refl _, hb6.out.drew⟩
                refine wpAnyH_take (i := 0) (v := ?_) rfl (by kernel_rfl) (by kernel_rfl) (by kernel_rfl) (fun _ _ _ h => h) (Or.inl ⟨by rfl, ?_⟩) (by assumption) ?_
                rotate_left
                · intro w9 hSw; (try dsimp only at hSw); go_simp; try with_reducible rfl
                try simp only [List.getElem_toArray, List.getElem_cons_succ, List.getElem_cons_zero, Act.put, List.setIfInBounds_toArray, List.set_cons_zero, List.set_cons_succ]
                refine wpAnyH_take (i := 2) (v := ?_) rfl (by kernel_rfl) (by kernel_rfl) (by kernel_rfl) (fun _ _ _ h => h) (Or.inl ⟨by rfl, ?_⟩) (by assumption) ?_
                rotate_left
                · intro w9 hSw; (try dsimp only at hSw); go_simp; try with_reducible rfl
                try simp only [List.getElem_toArray, List.getElem_cons_succ, List.getElem_cons_zero, Act.put, List.setIfInBounds_toArray, List.set_cons_zero, List.set_cons_succ]
                refine wpAnyH_take (i := 3) (v := ?_) rfl (by kernel_rfl) (by kernel_rfl) (by kernel_rfl) (fun _ _ _ h => h) (Or.inl ⟨by rfl, ?_⟩) (by assumption) ?_
                rotate_left
                · intro w9 hSw; (try dsimp only at hSw); go_simp; try with_reducible rfl
                try simp only [List.getElem_toArray, List.getElem_cons_succ, List.getElem_cons_zero, Act.put, List.setIfInBounds_toArray, List.set_cons_zero, List.set_cons_succ]
                refine wpAnyH_take (i := 4) (v := ?_) rfl (by kernel_rfl) (by kernel_rfl) (by kernel_rfl) (fun _ _ _ h => h) (Or.inl ⟨by rfl, ?_⟩) (by assumption) ?_
                rotate_left
                · intro w9 hSw; (try dsimp only at hSw); go_simp; try with_reducible rfl
                try simp only [List.getElem_toArray, List.getElem_cons_succ, List.getElem_cons_zero, Act.put, List.setIfInBounds_toArray, List.set_cons_zero, List.set_cons_succ]
                refine wpAnyH_take (i := 5) (v := ?_) rfl (by kernel_rfl) (by kernel_rfl) (by kernel_rfl) (fun _ _ _ h => h) (Or.inl ⟨by rfl, ?_⟩) (by assumption) ?_
                rotate_left
                · intro w9 hSw; (try dsimp only at hSw); go_simp; try with_reducible rfl
                try simp only [List.getElem_toArray, List.getElem_cons_succ, List.getElem_cons_zero, Act.put, List.setIfInBounds_toArray, List.set_cons_zero, List.set_cons_succ]
                refine wpAnyH_take (i := 6) (v := ?_) rfl (by kernel_rfl) (by kernel_rfl) (by kernel_rfl) (fun _ _ _ h => h) (Or.inl ⟨by rfl, ?_⟩) (by assumption) ?_
                rotate_left
                · intro w9 hSw; (try dsimp only at hSw); go_simp; try with_reducible rfl
                try simp only [List.getElem_toArray, List.getElem_cons_succ, List.getElem_cons_zero, Act.put, List.setIfInBounds_toArray, List.set_cons_zero, List.set_cons_succ]
                refine wpAnyH_take (i := 7) (v := ?_) rfl (by kernel_rfl) (by kernel_rfl) (by kernel_rfl) (fun _ _ _ h => h) (Or.inl ⟨by rfl, ?_⟩) (by assumption) ?_
                rotate_left
                · intro w9 hSw; (try dsimp only at hSw); go_simp; try with_reducible rfl
                try simp only [List.getElem_toArray, List.getElem_cons_succ, List.getElem_cons_zero, Act.put, List.setIfInBounds_toArray, List.set_cons_zero, List.set_cons_succ]
                refine wpAnyH_ready (rs := [1, 8]) (by kernel_rfl) (by simp) ?_
                refine AllReadyH.cons rfl (fun K hK => ?_) ?_
                · go_simp
                  refine hK.out _ _ ?_ (fun hHeld => ?_)
                  · exact hHeld
                  clear hK K
                  try simp only [List.getElem_toArray, List.getElem_cons_succ, List.getElem_cons_zero, Act.put, List.setIfInBounds_toArray, List.set_cons_zero, List.set_cons_succ]
                  refine wpAnyH_ready (rs := [8]) (by kernel_rfl) (by simp) ?_
                  refine AllReadyH.cons rfl (fun K hK => ?_) ?_
                  · go_simp
                    refine hK.out _ _ ?_ (fun hHeld => ?_)
                    · exact ⟨cell_old _ hHeld.1, Nat.le_trans hHeld.2.1 (by simp), hHeld.2.2.alloc (by have := hHeld.2.1; omega) _⟩
                    clear hK K
                    try simp only [List.getElem_toArray, List.getElem_cons_succ, List.getElem_cons_zero, Act.put, List.setIfInBounds_toArray, List.set_cons_zero, List.set_cons_succ]
                    refine wpAnyH_ready (rs := [9]) (by kernel_rfl) (by simp) ?_
                    refine AllReadyH.cons rfl (fun K hK => ?_) ?_
                    · (refine step_append_lies _ (by rfl) _ _ _ (by rfl) w0.heap.size 3 iI _ 1 8 Try.underlying23 hi' hz0' hz1' hz2' rfl (by omega) l LL.length (LL.map (Value.int .i64)) (by rfl) (HO6.out.2.2.2.1.alloc _).drew ⟨wB.heap.size, 0, none⟩ 1 1 [.int .i64 (2 * z - 1)] (by rfl) (by rfl) (World.news_of_block (cs := #[.int .i64 (2 * z - 1)]) (t := 3) (fr := (0, 0)) (heap_alloc_new wB.drew _)) (by simp [Value.oneCell']) (by omega) (by have := HLl.out; unfold maxLen; omega) (by have := HLl.out; omega) (by simp; omega) (wB.heap.size + 1) (by simp) ?_)
                      intro gg2 cap2 w5 hown2 hgrow2 hat2 hlt2
                      have hv8 := fun g e => And.intro (HO6.out.2.2.2.1.lt g e).1 (HO6.out.2.2.2.2.1 g e).1
                      have hO5 := Lib.hid (Out.label (W := wB.drew) (O := .cells #[.int .i64 (2 * z - 1)] 3) (HO6.out.below (Below.refl _ _).drew) (Nat.le_refl _) (by omega) hgrow2 hown2 hat2 hlt2)
                      obtain ⟨t0, t1, t2, t3⟩ := HQ.out ((wB.alloc (.cells #[.int .i64 (2 * z - 1)] 3)).drew) _ _ _ _ ⟨cell_oldD _ HY6.out.1, cell_oldD _ HY6.out.2.1, fro_oldD _ (by omega) HY6.out.2.2.1, fro_oldD _ (by omega) HY6.out.2.2.2⟩ hgrow2 hv8 (by simp; omega)
                      have hx5 := Lib.hid (HA6.out _ _ _ hHeld hgrow2 hv8)
                      clear hown2 hgrow2 hat2 hv8
                      refine hK.out _ _ ?_ (fun hHeld => ?_)
                      · exact hx5.out
                      clear hK K
                      try simp only [List.getElem_toArray, List.getElem_cons_succ, List.getElem_cons_zero, Act.put, List.setIfInBounds_toArray, List.set_cons_zero, List.set_cons_succ]
                      refine wpAnyH_take (i := 10) (v := ?_) rfl (by kernel_rfl) (by kernel_rfl) (by kernel_rfl) (fun _ _ _ h => h) (Or.inl ⟨by rfl, ?_⟩) (by assumption) ?_
                      rotate_left
                      · intro w9 hSw; (try dsimp only at hSw); go_simp; try with_reducible rfl
                      try simp only [List.getElem_toArray, List.getElem_cons_succ, List.getElem_cons_zero, Act.put, List.setIfInBounds_toArray, List.set_cons_zero, List.set_cons_succ]
                      refine wpAnyH_ready (rs := [11]) (by kernel_rfl) (by simp) ?_
                      refine AllReadyH.cons rfl (fun K hK => ?_) ?_
                      · go_simp
                        refine hK.out _ _ ?_ (fun hHeld => ?_)
                        · exact ⟨cell_set hx5.out.1 (by simp; omega) _, by rw [size_set]; exact hx5.out.2.1, hx5.out.2.2.setCell (by simp) _⟩
                        clear hK K
                        try simp only [List.getElem_toArray, List.getElem_cons_succ, List.getElem_cons_zero, Act.put, List.setIfInBounds_toArray, List.set_cons_zero, List.set_cons_succ]
                        refine wpAnyH_done (by kernel_rfl) ?_ _
                        refine NoPanic.normal ?_
                        have HO7 := Lib.hid (show Out w0.heap.size (w0.heap.size + 2) (w5.setCell ⟨w0.heap.size + 2, 1, none⟩ (Value.slice (some ⟨gg2, 0, none⟩) (LL.length + 1) cap2)).heap.size (w5.setCell ⟨w0.heap.size + 2, 1, none⟩ (Value.slice (some ⟨gg2, 0, none⟩) (LL.length + 1) cap2)) (Value.slice (some ⟨gg, 0, none⟩) (RR.length + 1) cap) (Value.slice (some ⟨gg2, 0, none⟩) (LL.length + 1) cap2) (cs ++ [.slice p1 r.length q1]) (RR ++ [r]) (LL ++ [2 * z - 1]) from by rw [size_set]; exact hO5.out.set 1 _)
                        have HY7 := Lib.hid (show (w5.setCell ⟨w0.heap.size + 2, 1, none⟩ (Value.slice (some ⟨gg2, 0, none⟩) (LL.length + 1) cap2)).cell? ⟨w0.heap.size + 2, 0, none⟩ = some ((Value.slice (some ⟨gg, 0, none⟩) (RR.length + 1) cap)) ∧ (w5.setCell ⟨w0.heap.size + 2, 1, none⟩ (Value.slice (some ⟨gg2, 0, none⟩) (LL.length + 1) cap2)).cell? ⟨w0.heap.size + 2, 1, none⟩ = some ((Value.slice (some ⟨gg2, 0, none⟩) (LL.length + 1) cap2)) ∧ (w5.setCell ⟨w0.heap.size + 2, 1, none⟩ (Value.slice (some ⟨gg2, 0, none⟩) (LL.length + 1) cap2)).frozen? ⟨w0.heap.size + 2, 0, none⟩ = false ∧ (w5.setCell ⟨w0.heap.size + 2, 1, none⟩ (Value.slice (some ⟨gg2, 0, none⟩) (LL.length + 1) cap2)).frozen? ⟨w0.heap.size + 2, 1, none⟩ = false from ⟨(World.cell?_setCell_other _ _ _ _ (by simp)).trans t0, World.cell?_setCell_same _ _ _ t1, by rw [World.frozen?_setCell]; exact t2, by rw [World.frozen?_setCell]; exact t3⟩)
                        have hb7 := Lib.hid hHeld.2.2
                        have hs7 : w0.heap.size + 2 + 1 ≤ (w5.setCell ⟨w0.heap.size + 2, 1, none⟩ (Value.slice (some ⟨gg2, 0, none⟩) (LL.length + 1) cap2)).heap.size := by have := hHeld.2.1; omega
                        clear hHeld t0 t1 t2 t3
                        go_wp2_with fail
                        go_roundw
                        case rel => exact ⟨k + 1, _, _, _, by omega, by go_num, HY7, by rw [HSR.out, HSL.out]; exact HO7, hb7, hs7⟩
                        case measure => simp [intOf]; omega
                      exact AllReadyH.nil
                    exact AllReadyH.nil
                  exact AllReadyH.nil
                refine AllReadyH.cons rfl (fun K hK => ?_) ?_
                · go_simp
                  refine hK.out _ _ ?_ (fun hHeld => ?_)
                  · exact ⟨cell_old _ hHeld.1, Nat.le_trans hHeld.2.1 (by simp), hHeld.2.2.alloc (by have := hHeld.2.1; omega) _⟩
                  clear hK K
                  try simp only [List.getElem_toArray, List.getElem_cons_succ, List.getElem_cons_zero, Act.put, List.setIfInBounds_toArray, List.set_cons_zero, List.set_cons_succ]
                  refine wpAnyH_ready (rs := [1]) (by kernel_rfl) (by simp) ?_
                  refine AllReadyH.cons rfl (fun K hK => ?_) ?_
                  · go_simp
                    refine hK.out _ _ ?_ (fun hHeld => ?_)
                    · exact hHeld
                    clear hK K
                    try simp only [List.getElem_toArray, List.getElem_cons_succ, List.getElem_cons_zero, Act.put, List.setIfInBounds_toArray, List.set_cons_zero, List.set_cons_succ]
                    refine wpAnyH_ready (rs := [9]) (by kernel_rfl) (by simp) ?_
                    refine AllReadyH.cons rfl (fun K hK => ?_) ?_
                    · (refine step_append_lies _ (by rfl) _ _ _ (by rfl) w0.heap.size 3 iI _ 1 8 Try.underlying23 hi' hz0' hz1' hz2' rfl (by omega) l LL.length (LL.map (Value.int .i64)) (by rfl) (HO6.out.2.2.2.1.alloc _).drew ⟨wB.heap.size, 0, none⟩ 1 1 [.int .i64 (2 * z - 1)] (by rfl) (by rfl) (World.news_of_block (cs := #[.int .i64 (2 * z - 1)]) (t := 3) (fr := (0, 0)) (heap_alloc_new wB.drew _)) (by simp [Value.oneCell']) (by omega) (by have := HLl.out; unfold maxLen; omega) (by have := HLl.out; omega) (by simp; omega) (wB.heap.size + 1) (by simp) ?_)
                      intro gg2 cap2 w5 hown2 hgrow2 hat2 hlt2
                      have hv8 := fun g e => And.intro (HO6.out.2.2.2.1.lt g e).1 (HO6.out.2.2.2.2.1 g e).1
                      have hO5 := Lib.hid (Out.label (W := wB.drew) (O := .cells #[.int .i64 (2 * z - 1)] 3) (HO6.out.below (Below.refl _ _).drew) (Nat.le_refl _) (by omega) hgrow2 hown2 hat2 hlt2)
                      obtain ⟨t0, t1, t2, t3⟩ := HQ.out ((wB.alloc (.cells #[.int .i64 (2 * z - 1)] 3)).drew) _ _ _ _ ⟨cell_oldD _ HY6.out.1, cell_oldD _ HY6.out.2.1, fro_oldD _ (by omega) HY6.out.2.2.1, fro_oldD _ (by omega) HY6.out.2.2.2⟩ hgrow2 hv8 (by simp; omega)
                      have hx5 := Lib.hid (HA6.out _ _ _ hHeld hgrow2 hv8)
                      clear hown2 hgrow2 hat2 hv8
                      refine hK.out _ _ ?_ (fun hHeld => ?_)
                      · exact hx5.out
                      clear hK K
                      try simp only [List.getElem_toArray, List.getElem_cons_succ, List.getElem_cons_zero, Act.put, List.setIfInBounds_toArray, List.set_cons_zero, List.set_cons_succ]
                      refine wpAnyH_take (i := 10) (v := ?_) rfl (by kernel_rfl) (by kernel_rfl) (by kernel_rfl) (fun _ _ _ h => h) (Or.inl ⟨by rfl, ?_⟩) (by assumption) ?_
                      rotate_left
                      · intro w9 hSw; (try dsimp only at hSw); go_simp; try with_reducible rfl
                      try simp only [List.getElem_toArray, List.getElem_cons_succ, List.getElem_cons_zero, Act.put, List.setIfInBounds_toArray, List.set_cons_zero, List.set_cons_succ]
                      refine wpAnyH_ready (rs := [11]) (by kernel_rfl) (by simp) ?_
                      refine AllReadyH.cons rfl (fun K hK => ?_) ?_
                      · go_simp
                        refine hK.out _ _ ?_ (fun hHeld => ?_)
                        · exact ⟨cell_set hx5.out.1 (by simp; omega) _, by rw [size_set]; exact hx5.out.2.1, hx5.out.2.2.setCell (by simp) _⟩
                        clear hK K
                        try simp only [List.getElem_toArray, List.getElem_cons_succ, List.getElem_cons_zero, Act.put, List.setIfInBounds_toArray, List.set_cons_zero, List.set_cons_succ]
                        refine wpAnyH_done (by kernel_rfl) ?_ _
                        refine NoPanic.normal ?_
                        have HO7 := Lib.hid (show Out w0.heap.size (w0.heap.size + 2) (w5.setCell ⟨w0.heap.size + 2, 1, none⟩ (Value.slice (some ⟨gg2, 0, none⟩) (LL.length + 1) cap2)).heap.size (w5.setCell ⟨w0.heap.size + 2, 1, none⟩ (Value.slice (some ⟨gg2, 0, none⟩) (LL.length + 1) cap2)) (Value.slice (some ⟨gg, 0, none⟩) (RR.length + 1) cap) (Value.slice (some ⟨gg2, 0, none⟩) (LL.length + 1) cap2) (cs ++ [.slice p1 r.length q1]) (RR ++ [r]) (LL ++ [2 * z - 1]) from by rw [size_set]; exact hO5.out.set 1 _)
                        have HY7 := Lib.hid (show (w5.setCell ⟨w0.heap.size + 2, 1, none⟩ (Value.slice (some ⟨gg2, 0, none⟩) (LL.length + 1) cap2)).cell? ⟨w0.heap.size + 2, 0, none⟩ = some ((Value.slice (some ⟨gg, 0, none⟩) (RR.length + 1) cap)) ∧ (w5.setCell ⟨w0.heap.size + 2, 1, none⟩ (Value.slice (some ⟨gg2, 0, none⟩) (LL.length + 1) cap2)).cell? ⟨w0.heap.size + 2, 1, none⟩ = some ((Value.slice (some ⟨gg2, 0, none⟩) (LL.length + 1) cap2)) ∧ (w5.setCell ⟨w0.heap.size + 2, 1, none⟩ (Value.slice (some ⟨gg2, 0, none⟩) (LL.length + 1) cap2)).frozen? ⟨w0.heap.size + 2, 0, none⟩ = false ∧ (w5.setCell ⟨w0.heap.size + 2, 1, none⟩ (Value.slice (some ⟨gg2, 0, none⟩) (LL.length + 1) cap2)).frozen? ⟨w0.heap.size + 2, 1, none⟩ = false from ⟨(World.cell?_setCell_other _ _ _ _ (by simp)).trans t0, World.cell?_setCell_same _ _ _ t1, by rw [World.frozen?_setCell]; exact t2, by rw [World.frozen?_setCell]; exact t3⟩)
                        have hb7 := Lib.hid hHeld.2.2
                        have hs7 : w0.heap.size + 2 + 1 ≤ (w5.setCell ⟨w0.heap.size + 2, 1, none⟩ (Value.slice (some ⟨gg2, 0, none⟩) (LL.length + 1) cap2)).heap.size := by have := hHeld.2.1; omega
                        clear hHeld t0 t1 t2 t3
                        go_wp2_with fail
                        go_roundw
                        case rel => exact ⟨k + 1, _, _, _, by omega, by go_num, HY7, by rw [HSR.out, HSL.out]; exact HO7, hb7, hs7⟩
                        case measure => simp [intOf]; omega
                      exact AllReadyH.nil
                    exact AllReadyH.nil
                  exact AllReadyH.nil
                exact AllReadyH.nil
              exact AllReadyH.nil
            exact AllReadyH.nil
          exact AllReadyH.nil
        exact AllReadyH.nil
      refine AllReadyH.cons rfl (fun K hK => ?_) ?_
      · go_simp
        refine Calls.mono (HT0.out _ ?_ ?_ ?_) ?_
        · exact hHeld
        · exact HC.out
        · exact HO.out.below (Below.refl _ _).drew
        rintro e va ⟨p1, q1, rfl, ho0, hO0, ⟨q0_0, q0_1, q0_2, q0_3⟩, hbx⟩
        have z0 : ∀ O, (va.alloc O).cell? ⟨w0.heap.size + 2, 0, none⟩ = some v := fun O => cell_old O q0_0
        have hx1 := Lib.hid hbx
        have hO1 := Lib.hid hO0
        have ho1 := Lib.hid ho0
        clear hO0 ho0
        refine hK.out _ _ ?_ (fun hHeld => ?_)
        · exact hbx
        clear hK K
        try simp only [List.getElem_toArray, List.getElem_cons_succ, List.getElem_cons_zero, Act.put, List.setIfInBounds_toArray, List.set_cons_zero, List.set_cons_succ]
        refine wpAnyH_ready (rs := [1, 5]) (by kernel_rfl) (by simp) ?_
        refine AllReadyH.cons rfl (fun K hK => ?_) ?_
        · go_simp
          refine hK.out _ _ ?_ (fun hHeld => ?_)
          · exact hHeld
          clear hK K
          try simp only [List.getElem_toArray, List.getElem_cons_succ, List.getElem_cons_zero, Act.put, List.setIfInBounds_toArray, List.set_cons_zero, List.set_cons_succ]
          refine wpAnyH_ready (rs := [5]) (by kernel_rfl) (by simp) ?_
          refine AllReadyH.cons rfl (fun K hK => ?_) ?_
          · go_simp
            refine hK.out _ _ ?_ (fun hHeld => ?_)
            · exact ⟨Nat.le_trans hbx.1 (by simp), hbx.2.alloc (by have := hbx.1; omega) _⟩
            clear hK K
            try simp only [List.getElem_toArray, List.getElem_cons_succ, List.getElem_cons_zero, Act.put, List.setIfInBounds_toArray, List.set_cons_zero, List.set_cons_succ]
            refine wpAnyH_ready (rs := [6]) (by kernel_rfl) (by simp) ?_
            refine AllReadyH.cons rfl (fun K hK => ?_) ?_
            · (refine step_append_lies _ (by rfl) _ _ _ (by rfl) w0.heap.size 23 i0 _ 1 24 Try.underlying22 hi hz0 hz1 hz2 rfl (by omega) v RR.length cs (by rfl) (hO1.out.1.alloc _) ⟨va.heap.size, 0, none⟩ 1 1 [.slice p1 r.length q1] (by rfl) (by rfl) (World.news_of_block (cs := #[.slice p1 r.length q1]) (t := 23) (fr := (0, 0)) (heap_alloc_new va _)) (by simp [Value.oneCell']) (by omega) (by have := HRl.out; unfold maxLen; omega) (by have := HRl.out; omega) (Nat.le_trans (by omega) (Nat.le_trans hx1.out.1 (by simp))) (va.heap.size + 1) (by simp) ?_)
              intro gg cap w3 hown1 hgrow hat hlt'
              have hv9 := fun g e => And.intro (hO1.out.1.lt g e).1 (hO1.out.2.1 g e).1
              have hO3 := Lib.hid (Out.row hO1.out ho1.out hx1.out.1 (by omega) hgrow hown1 hat hlt')
              obtain ⟨t0, t1, t2, t3⟩ := HQ.out _ _ _ _ _ ⟨cell_old _ q0_0, cell_old _ q0_1, fro_old _ (by have := hx1.out.1; omega) q0_2, fro_old _ (by have := hx1.out.1; omega) q0_3⟩ hgrow hv9 (by have := hx1.out.1; simp; omega)
              have hx3 := Lib.hid (HA5.out _ _ _ ⟨Nat.le_trans hx1.out.1 (by simp), hx1.out.2.alloc (by have := hx1.out.1; omega) _⟩ hgrow hv9)
              clear hown1 hgrow hat hv9
              refine hK.out _ _ ?_ (fun hHeld => ?_)
              · exact hx3.out
              clear hK K
              try simp only [List.getElem_toArray, List.getElem_cons_succ, List.getElem_cons_zero, Act.put, List.setIfInBounds_toArray, List.set_cons_zero, List.set_cons_succ]
              refine wpAnyH_take (i := 7) (v := ?_) rfl (by kernel_rfl) (by kernel_rfl) (by kernel_rfl) (fun _ _ _ h => h) (Or.inl ⟨by rfl, ?_⟩) (by assumption) ?_
              rotate_left
              · intro w9 hSw; (try dsimp only at hSw); go_simp; try with_reducible rfl
              try simp only [List.getElem_toArray, List.getElem_cons_succ, List.getElem_cons_zero, Act.put, List.setIfInBounds_toArray, List.set_cons_zero, List.set_cons_succ]
              refine wpAnyH_ready (rs := [8]) (by kernel_rfl) (by simp) ?_
              refine AllReadyH.cons rfl (fun K hK => ?_) ?_
              · go_simp
                refine hK.out _ _ ?_ (fun hHeld => ?_)
                · exact ⟨by rw [size_set]; exact hx3.out.1, hx3.out.2.setCell (by simp) _⟩
                clear hK K
                try simp only [List.getElem_toArray, List.getElem_cons_succ, List.getElem_cons_zero, Act.put, List.setIfInBounds_toArray, List.set_cons_zero, List.set_cons_succ]
                refine wpAnyH_done (by kernel_rfl) ?_ _
                refine NoPanic.normal ?_
                have HO6 := Lib.hid (show Out w0.heap.size (w0.heap.size + 2) (w3.setCell ⟨w0.heap.size + 2, 0, none⟩ (Value.slice (some ⟨gg, 0, none⟩) (RR.length + 1) cap)).heap.size (w3.setCell ⟨w0.heap.size + 2, 0, none⟩ (Value.slice (some ⟨gg, 0, none⟩) (RR.length + 1) cap)) (Value.slice (some ⟨gg, 0, none⟩) (RR.length + 1) cap) l (cs ++ [.slice p1 r.length q1]) (RR ++ [r]) LL from by rw [size_set]; exact hO3.out.set 0 _)
                have HY6 := Lib.hid (show (w3.setCell ⟨w0.heap.size + 2, 0, none⟩ (Value.slice (some ⟨gg, 0, none⟩) (RR.length + 1) cap)).cell? ⟨w0.heap.size + 2, 0, none⟩ = some ((Value.slice (some ⟨gg, 0, none⟩) (RR.length + 1) cap)) ∧ (w3.setCell ⟨w0.heap.size + 2, 0, none⟩ (Value.slice (some ⟨gg, 0, none⟩) (RR.length + 1) cap)).cell? ⟨w0.heap.size + 2, 1, none⟩ = some (l) ∧ (w3.setCell ⟨w0.heap.size + 2, 0, none⟩ (Value.slice (some ⟨gg, 0, none⟩) (RR.length + 1) cap)).frozen? ⟨w0.heap.size + 2, 0, none⟩ = false ∧ (w3.setCell ⟨w0.heap.size + 2, 0, none⟩ (Value.slice (some ⟨gg, 0, none⟩) (RR.length + 1) cap)).frozen? ⟨w0.heap.size + 2, 1, none⟩ = false from ⟨World.cell?_setCell_same _ _ _ t0, (World.cell?_setCell_other _ _ _ _ (by simp)).trans t1, by rw [World.frozen?_setCell]; exact t2, by rw [World.frozen?_setCell]; exact t3⟩)
                have hb6 := Lib.hid hHeld.2
                have hs6 : w0.heap.size + 2 + 1 ≤ (w3.setCell ⟨w0.heap.size + 2, 0, none⟩ (Value.slice (some ⟨gg, 0, none⟩) (RR.length + 1) cap)).heap.size := by have := hHeld.1; omega
                generalize hw : (w3.setCell ⟨w0.heap.size + 2, 0, none⟩ (Value.slice (some ⟨gg, 0, none⟩) (RR.length + 1) cap)) = wB at *
                clear hw hHeld t0 t1 t2 t3
                have x8 := cell_below hb6.out XQ.out hbz
                have y1 := HY6.out.2.1
                have z1 : ∀ O, (wB.alloc O).cell? ⟨w0.heap.size + 2, 1, none⟩ = some l := fun O => cell_old O y1
                have i6 := HI.out
                have HA6 := Lib.hid (show ∀ (W W3 : World) (o : Option Nat), (W.cell? ⟨bz, oz + k, none⟩ = some (.int .i64 z) ∧ wB.heap.size ≤ W.heap.size ∧ Below w0.heap.size w0 W) → W.grownBy W3 o → (∀ g, o = some g → w0.heap.size ≤ g ∧ g ≠ w0.heap.size + 2) → (W3.cell? ⟨bz, oz + k, none⟩ = some (.int .i64 z) ∧ wB.heap.size ≤ W3.heap.size ∧ Below w0.heap.size w0 W3) from fun W W3 o hS hg ho => by
                  have nf : ∀ q, some q = o → q < w0.heap.size → False := fun q e h => by have := (ho q e.symm).1; omega
                  exact ⟨hg.cell hS.1 (fun e => nf _ e (by simp; omega)), Nat.le_trans hS.2.1 hg.size, hS.2.2.grown hg (by have := hS.2.1; omega) (fun g e => (ho g e).1)⟩)
                go_wp2_with fail
                refine wp_region_noPanic ?_
                refine wp_region_held_drew (S := fun w' => w'.cell? ⟨bz, oz + k, none⟩ = some (.int .i64 z) ∧ wB.heap.size ≤ w'.heap.size ∧ Below w0.heap.size w0 w') (by kernel_rfl) ?_ (fun hHeld => ?_)
                · exact ⟨x8, Nat.le_refl _, hb6.out.drew⟩
                refine wpAnyH_take (i := 0) (v := ?_) rfl (by kernel_rfl) (by kernel_rfl) (by kernel_rfl) (fun _ _ _ h => h) (Or.inl ⟨by rfl, ?_⟩) (by assumption) ?_
                rotate_left
                · intro w9 hSw; (try dsimp only at hSw); go_simp; try with_reducible rfl
                try simp only [List.getElem_toArray, List.getElem_cons_succ, List.getElem_cons_zero, Act.put, List.setIfInBounds_toArray, List.set_cons_zero, List.set_cons_succ]
                refine wpAnyH_take (i := 2) (v := ?_) rfl (by kernel_rfl) (by kernel_rfl) (by kernel_rfl) (fun _ _ _ h => h) (Or.inl ⟨by rfl, ?_⟩) (by assumption) ?_
                rotate_left
                · intro w9 hSw; (try dsimp only at hSw); go_simp; try with_reducible rfl
                try simp only [List.getElem_toArray, List.getElem_cons_succ, List.getElem_cons_zero, Act.put, List.setIfInBounds_toArray, List.set_cons_zero, List.set_cons_succ]
                refine wpAnyH_take (i := 3) (v := ?_) rfl (by kernel_rfl) (by kernel_rfl) (by kernel_rfl) (fun _ _ _ h => h) (Or.inl ⟨by rfl, ?_⟩) (by assumption) ?_
                rotate_left
                · intro w9 hSw; (try dsimp only at hSw); go_simp; try with_reducible rfl
                try simp only [List.getElem_toArray, List.getElem_cons_succ, List.getElem_cons_zero, Act.put, List.setIfInBounds_toArray, List.set_cons_zero, List.set_cons_succ]
                refine wpAnyH_take (i := 4) (v := ?_) rfl (by kernel_rfl) (by kernel_rfl) (by kernel_rfl) (fun _ _ _ h => h) (Or.inl ⟨by rfl, ?_⟩) (by assumption) ?_
                rotate_left
                · intro w9 hSw; (try dsimp only at hSw); go_simp; try with_reducible rfl
                try simp only [List.getElem_toArray, List.getElem_cons_succ, List.getElem_cons_zero, Act.put, List.setIfInBounds_toArray, List.set_cons_zero, List.set_cons_succ]
                refine wpAnyH_take (i := 5) (v := ?_) rfl (by kernel_rfl) (by kernel_rfl) (by kernel_rfl) (fun _ _ _ h => h) (Or.inl ⟨by rfl, ?_⟩) (by assumption) ?_
                rotate_left
                · intro w9 hSw; (try dsimp only at hSw); go_simp; try with_reducible rfl
                try simp only [List.getElem_toArray, List.getElem_cons_succ, List.getElem_cons_zero, Act.put, List.setIfInBounds_toArray, List.set_cons_zero, List.set_cons_succ]
                refine wpAnyH_take (i := 6) (v := ?_) rfl (by kernel_rfl) (by kernel_rfl) (by kernel_rfl) (fun _ _ _ h => h) (Or.inl ⟨by rfl, ?_⟩) (by assumption) ?_
                rotate_left
                · intro w9 hSw; (try dsimp only at hSw); go_simp; try with_reducible rfl
                try simp only [List.getElem_toArray, List.getElem_cons_succ, List.getElem_cons_zero, Act.put, List.setIfInBounds_toArray, List.set_cons_zero, List.set_cons_succ]
                refine wpAnyH_take (i := 7) (v := ?_) rfl (by kernel_rfl) (by kernel_rfl) (by kernel_rfl) (fun _ _ _ h => h) (Or.inl ⟨by rfl, ?_⟩) (by assumption) ?_
                rotate_left
                · intro w9 hSw; (try dsimp only at hSw); go_simp; try with_reducible rfl
                try simp only [List.getElem_toArray, List.getElem_cons_succ, List.getElem_cons_zero, Act.put, List.setIfInBounds_toArray, List.set_cons_zero, List.set_cons_succ]
                refine wpAnyH_ready (rs := [1, 8]) (by kernel_rfl) (by simp) ?_
                refine AllReadyH.cons rfl (fun K hK => ?_) ?_
                · go_simp
                  refine hK.out _ _ ?_ (fun hHeld => ?_)
                  · exact hHeld
                  clear hK K
                  try simp only [List.getElem_toArray, List.getElem_cons_succ, List.getElem_cons_zero, Act.put, List.setIfInBounds_toArray, List.set_cons_zero, List.set_cons_succ]
                  refine wpAnyH_ready (rs := [8]) (by kernel_rfl) (by simp) ?_
                  refine AllReadyH.cons rfl (fun K hK => ?_) ?_
                  · go_simp
                    refine hK.out _ _ ?_ (fun hHeld => ?_)
                    · exact ⟨cell_old _ hHeld.1, Nat.le_trans hHeld.2.1 (by simp), hHeld.2.2.alloc (by have := hHeld.2.1; omega) _⟩
                    clear hK K
                    try simp only [List.getElem_toArray, List.getElem_cons_succ, List.getElem_cons_zero, Act.put, List.setIfInBounds_toArray, List.set_cons_zero, List.set_cons_succ]
                    refine wpAnyH_ready (rs := [9]) (by kernel_rfl) (by simp) ?_
                    refine AllReadyH.cons rfl (fun K hK => ?_) ?_
                    · (refine step_append_lies _ (by rfl) _ _ _ (by rfl) w0.heap.size 3 iI _ 1 8 Try.underlying23 hi' hz0' hz1' hz2' rfl (by omega) l LL.length (LL.map (Value.int .i64)) (by rfl) (HO6.out.2.2.2.1.alloc _).drew ⟨wB.heap.size, 0, none⟩ 1 1 [.int .i64 (2 * z - 1)] (by rfl) (by rfl) (World.news_of_block (cs := #[.int .i64 (2 * z - 1)]) (t := 3) (fr := (0, 0)) (heap_alloc_new wB.drew _)) (by simp [Value.oneCell']) (by omega) (by have := HLl.out; unfold maxLen; omega) (by have := HLl.out; omega) (by simp; omega) (wB.heap.size + 1) (by simp) ?_)
                      intro gg2 cap2 w5 hown2 hgrow2 hat2 hlt2
                      have hv8 := fun g e => And.intro (HO6.out.2.2.2.1.lt g e).1 (HO6.out.2.2.2.2.1 g e).1
                      have hO5 := Lib.hid (Out.label (W := wB.drew) (O := .cells #[.int .i64 (2 * z - 1)] 3) (HO6.out.below (Below.refl _ _).drew) (Nat.le_refl _) (by omega) hgrow2 hown2 hat2 hlt2)
                      obtain ⟨t0, t1, t2, t3⟩ := HQ.out ((wB.alloc (.cells #[.int .i64 (2 * z - 1)] 3)).drew) _ _ _ _ ⟨cell_oldD _ HY6.out.1, cell_oldD _ HY6.out.2.1, fro_oldD _ (by omega) HY6.out.2.2.1, fro_oldD _ (by omega) HY6.out.2.2.2⟩ hgrow2 hv8 (by simp; omega)
                      have hx5 := Lib.hid (HA6.out _ _ _ hHeld hgrow2 hv8)
                      clear hown2 hgrow2 hat2 hv8
                      refine hK.out _ _ ?_ (fun hHeld => ?_)
                      · exact hx5.out
                      clear hK K
                      try simp only [List.getElem_toArray, List.getElem_cons_succ, List.getElem_cons_zero, Act.put, List.setIfInBounds_toArray, List.set_cons_zero, List.set_cons_succ]
                      refine wpAnyH_take (i := 10) (v := ?_) rfl (by kernel_rfl) (by kernel_rfl) (by kernel_rfl) (fun _ _ _ h => h) (Or.inl ⟨by rfl, ?_⟩) (by assumption) ?_
                      rotate_left
                      · intro w9 hSw; (try dsimp only at hSw); go_simp; try with_reducible rfl
                      try simp only [List.getElem_toArray, List.getElem_cons_succ, List.getElem_cons_zero, Act.put, List.setIfInBounds_toArray, List.set_cons_zero, List.set_cons_succ]
                      refine wpAnyH_ready (rs := [11]) (by kernel_rfl) (by simp) ?_
                      refine AllReadyH.cons rfl (fun K hK => ?_) ?_
                      · go_simp
                        refine hK.out _ _ ?_ (fun hHeld => ?_)
                        · exact ⟨cell_set hx5.out.1 (by simp; omega) _, by rw [size_set]; exact hx5.out.2.1, hx5.out.2.2.setCell (by simp) _⟩
                        clear hK K
                        try simp only [List.getElem_toArray, List.getElem_cons_succ, List.getElem_cons_zero, Act.put, List.setIfInBounds_toArray, List.set_cons_zero, List.set_cons_succ]
                        refine wpAnyH_done (by kernel_rfl) ?_ _
                        refine NoPanic.normal ?_
                        have HO7 := Lib.hid (show Out w0.heap.size (w0.heap.size + 2) (w5.setCell ⟨w0.heap.size + 2, 1, none⟩ (Value.slice (some ⟨gg2, 0, none⟩) (LL.length + 1) cap2)).heap.size (w5.setCell ⟨w0.heap.size + 2, 1, none⟩ (Value.slice (some ⟨gg2, 0, none⟩) (LL.length + 1) cap2)) (Value.slice (some ⟨gg, 0, none⟩) (RR.length + 1) cap) (Value.slice (some ⟨gg2, 0, none⟩) (LL.length + 1) cap2) (cs ++ [.slice p1 r.length q1]) (RR ++ [r]) (LL ++ [2 * z - 1]) from by rw [size_set]; exact hO5.out.set 1 _)
                        have HY7 := Lib.hid (show (w5.setCell ⟨w0.heap.size + 2, 1, none⟩ (Value.slice (some ⟨gg2, 0, none⟩) (LL.length + 1) cap2)).cell? ⟨w0.heap.size + 2, 0, none⟩ = some ((Value.slice (some ⟨gg, 0, none⟩) (RR.length + 1) cap)) ∧ (w5.setCell ⟨w0.heap.size + 2, 1, none⟩ (Value.slice (some ⟨gg2, 0, none⟩) (LL.length + 1) cap2)).cell? ⟨w0.heap.size + 2, 1, none⟩ = some ((Value.slice (some ⟨gg2, 0, none⟩) (LL.length + 1) cap2)) ∧ (w5.setCell ⟨w0.heap.size + 2, 1, none⟩ (Value.slice (some ⟨gg2, 0, none⟩) (LL.length + 1) cap2)).frozen? ⟨w0.heap.size + 2, 0, none⟩ = false ∧ (w5.setCell ⟨w0.heap.size + 2, 1, none⟩ (Value.slice (some ⟨gg2, 0, none⟩) (LL.length + 1) cap2)).frozen? ⟨w0.heap.size + 2, 1, none⟩ = false from ⟨(World.cell?_setCell_other _ _ _ _ (by simp)).trans t0, World.cell?_setCell_same _ _ _ t1, by rw [World.frozen?_setCell]; exact t2, by rw [World.frozen?_setCell]; exact t3⟩)
                        have hb7 := Lib.hid hHeld.2.2
                        have hs7 : w0.heap.size + 2 + 1 ≤ (w5.setCell ⟨w0.heap.size + 2, 1, none⟩ (Value.slice (some ⟨gg2, 0, none⟩) (LL.length + 1) cap2)).heap.size := by have := hHeld.2.1; omega
                        clear hHeld t0 t1 t2 t3
                        go_wp2_with fail
                        go_roundw
                        case rel => exact ⟨k + 1, _, _, _, by omega, by go_num, HY7, by rw [HSR.out, HSL.out]; exact HO7, hb7, hs7⟩
                        case measure => simp [intOf]; omega
                      exact AllReadyH.nil
                    exact AllReadyH.nil
                  exact AllReadyH.nil
                refine AllReadyH.cons rfl (fun K hK => ?_) ?_
                · go_simp
                  refine hK.out _ _ ?_ (fun hHeld => ?_)
                  · exact ⟨cell_old _ hHeld.1, Nat.le_trans hHeld.2.1 (by simp), hHeld.2.2.alloc (by have := hHeld.2.1; omega) _⟩
                  clear hK K
                  try simp only [List.getElem_toArray, List.getElem_cons_succ, List.getElem_cons_zero, Act.put, List.setIfInBounds_toArray, List.set_cons_zero, List.set_cons_succ]
                  refine wpAnyH_ready (rs := [1]) (by kernel_rfl) (by simp) ?_
                  refine AllReadyH.cons rfl (fun K hK => ?_) ?_
                  · go_simp
                    refine hK.out _ _ ?_ (fun hHeld => ?_)
                    · exact hHeld
                    clear hK K
                    try simp only [List.getElem_toArray, List.getElem_cons_succ, List.getElem_cons_zero, Act.put, List.setIfInBounds_toArray, List.set_cons_zero, List.set_cons_succ]
                    refine wpAnyH_ready (rs := [9]) (by kernel_rfl) (by simp) ?_
                    refine AllReadyH.cons rfl (fun K hK => ?_) ?_
                    · (refine step_append_lies _ (by rfl) _ _ _ (by rfl) w0.heap.size 3 iI _ 1 8 Try.underlying23 hi' hz0' hz1' hz2' rfl (by omega) l LL.length (LL.map (Value.int .i64)) (by rfl) (HO6.out.2.2.2.1.alloc _).drew ⟨wB.heap.size, 0, none⟩ 1 1 [.int .i64 (2 * z - 1)] (by rfl) (by rfl) (World.news_of_block (cs := #[.int .i64 (2 * z - 1)]) (t := 3) (fr := (0, 0)) (heap_alloc_new wB.drew _)) (by simp [Value.oneCell']) (by omega) (by have := HLl.out; unfold maxLen; omega) (by have := HLl.out; omega) (by simp; omega) (wB.heap.size + 1) (by simp) ?_)
                      intro gg2 cap2 w5 hown2 hgrow2 hat2 hlt2
                      have hv8 := fun g e => And.intro (HO6.out.2.2.2.1.lt g e).1 (HO6.out.2.2.2.2.1 g e).1
                      have hO5 := Lib.hid (Out.label (W := wB.drew) (O := .cells #[.int .i64 (2 * z - 1)] 3) (HO6.out.below (Below.refl _ _).drew) (Nat.le_refl _) (by omega) hgrow2 hown2 hat2 hlt2)
                      obtain ⟨t0, t1, t2, t3⟩ := HQ.out ((wB.alloc (.cells #[.int .i64 (2 * z - 1)] 3)).drew) _ _ _ _ ⟨cell_oldD _ HY6.out.1, cell_oldD _ HY6.out.2.1, fro_oldD _ (by omega) HY6.out.2.2.1, fro_oldD _ (by omega) HY6.out.2.2.2⟩ hgrow2 hv8 (by simp; omega)
                      have hx5 := Lib.hid (HA6.out _ _ _ hHeld hgrow2 hv8)
                      clear hown2 hgrow2 hat2 hv8
                      refine hK.out _ _ ?_ (fun hHeld => ?_)
                      · exact hx5.out
                      clear hK K
                      try simp only [List.getElem_toArray, List.getElem_cons_succ, List.getElem_cons_zero, Act.put, List.setIfInBounds_toArray, List.set_cons_zero, List.set_cons_succ]
                      refine wpAnyH_take (i := 10) (v := ?_) rfl (by kernel_rfl) (by kernel_rfl) (by kernel_rfl) (fun _ _ _ h => h) (Or.inl ⟨by rfl, ?_⟩) (by assumption) ?_
                      rotate_left
                      · intro w9 hSw; (try dsimp only at hSw); go_simp; try with_reducible rfl
                      try simp only [List.getElem_toArray, List.getElem_cons_succ, List.getElem_cons_zero, Act.put, List.setIfInBounds_toArray, List.set_cons_zero, List.set_cons_succ]
                      refine wpAnyH_ready (rs := [11]) (by kernel_rfl) (by simp) ?_
                      refine AllReadyH.cons rfl (fun K hK => ?_) ?_
                      · go_simp
                        refine hK.out _ _ ?_ (fun hHeld => ?_)
                        · exact ⟨cell_set hx5.out.1 (by simp; omega) _, by rw [size_set]; exact hx5.out.2.1, hx5.out.2.2.setCell (by simp) _⟩
                        clear hK K
                        try simp only [List.getElem_toArray, List.getElem_cons_succ, List.getElem_cons_zero, Act.put, List.setIfInBounds_toArray, List.set_cons_zero, List.set_cons_succ]
                        refine wpAnyH_done (by kernel_rfl) ?_ _
                        refine NoPanic.normal ?_
                        have HO7 := Lib.hid (show Out w0.heap.size (w0.heap.size + 2) (w5.setCell ⟨w0.heap.size + 2, 1, none⟩ (Value.slice (some ⟨gg2, 0, none⟩) (LL.length + 1) cap2)).heap.size (w5.setCell ⟨w0.heap.size + 2, 1, none⟩ (Value.slice (some ⟨gg2, 0, none⟩) (LL.length + 1) cap2)) (Value.slice (some ⟨gg, 0, none⟩) (RR.length + 1) cap) (Value.slice (some ⟨gg2, 0, none⟩) (LL.length + 1) cap2) (cs ++ [.slice p1 r.length q1]) (RR ++ [r]) (LL ++ [2 * z - 1]) from by rw [size_set]; exact hO5.out.set 1 _)
                        have HY7 := Lib.hid (show (w5.setCell ⟨w0.heap.size + 2, 1, none⟩ (Value.slice (some ⟨gg2, 0, none⟩) (LL.length + 1) cap2)).cell? ⟨w0.heap.size + 2, 0, none⟩ = some ((Value.slice (some ⟨gg, 0, none⟩) (RR.length + 1) cap)) ∧ (w5.setCell ⟨w0.heap.size + 2, 1, none⟩ (Value.slice (some ⟨gg2, 0, none⟩) (LL.length + 1) cap2)).cell? ⟨w0.heap.size + 2, 1, none⟩ = some ((Value.slice (some ⟨gg2, 0, none⟩) (LL.length + 1) cap2)) ∧ (w5.setCell ⟨w0.heap.size + 2, 1, none⟩ (Value.slice (some ⟨gg2, 0, none⟩) (LL.length + 1) cap2)).frozen? ⟨w0.heap.size + 2, 0, none⟩ = false ∧ (w5.setCell ⟨w0.heap.size + 2, 1, none⟩ (Value.slice (some ⟨gg2, 0, none⟩) (LL.length + 1) cap2)).frozen? ⟨w0.heap.size + 2, 1, none⟩ = false from ⟨(World.cell?_setCell_other _ _ _ _ (by simp)).trans t0, World.cell?_setCell_same _ _ _ t1, by rw [World.frozen?_setCell]; exact t2, by rw [World.frozen?_setCell]; exact t3⟩)
                        have hb7 := Lib.hid hHeld.2.2
                        have hs7 : w0.heap.size + 2 + 1 ≤ (w5.setCell ⟨w0.heap.size + 2, 1, none⟩ (Value.slice (some ⟨gg2, 0, none⟩) (LL.length + 1) cap2)).heap.size := by have := hHeld.2.1; omega
                        clear hHeld t0 t1 t2 t3
                        go_wp2_with fail
                        go_roundw
                        case rel => exact ⟨k + 1, _, _, _, by omega, by go_num, HY7, by rw [HSR.out, HSL.out]; exact HO7, hb7, hs7⟩
                        case measure => simp [intOf]; omega
                      exact AllReadyH.nil
                    exact AllReadyH.nil
                  exact AllReadyH.nil
                exact AllReadyH.nil
              exact AllReadyH.nil
            exact AllReadyH.nil
          exact AllReadyH.nil
        refine AllReadyH.cons rfl (fun K hK => ?_) ?_
        · go_simp
          refine hK.out _ _ ?_ (fun hHeld => ?_)
          · exact ⟨Nat.le_trans hbx.1 (by simp), hbx.2.alloc (by have := hbx.1; omega) _⟩
          clear hK K
          try simp only [List.getElem_toArray, List.getElem_cons_succ, List.getElem_cons_zero, Act.put, List.setIfInBounds_toArray, List.set_cons_zero, List.set_cons_succ]
          refine wpAnyH_ready (rs := [1]) (by kernel_rfl) (by simp) ?_
          refine AllReadyH.cons rfl (fun K hK => ?_) ?_
          · go_simp
            refine hK.out _ _ ?_ (fun hHeld => ?_)
            · exact hHeld
            clear hK K
            try simp only [List.getElem_toArray, List.getElem_cons_succ, List.getElem_cons_zero, Act.put, List.setIfInBounds_toArray, List.set_cons_zero, List.set_cons_succ]
            refine wpAnyH_ready (rs := [6]) (by kernel_rfl) (by simp) ?_
            refine AllReadyH.cons rfl (fun K hK => ?_) ?_
            · (refine step_append_lies _ (by rfl) _ _ _ (by rfl) w0.heap.size 23 i0 _ 1 24 Try.underlying22 hi hz0 hz1 hz2 rfl (by omega) v RR.length cs (by rfl) (hO1.out.1.alloc _) ⟨va.heap.size, 0, none⟩ 1 1 [.slice p1 r.length q1] (by rfl) (by rfl) (World.news_of_block (cs := #[.slice p1 r.length q1]) (t := 23) (fr := (0, 0)) (heap_alloc_new va _)) (by simp [Value.oneCell']) (by omega) (by have := HRl.out; unfold maxLen; omega) (by have := HRl.out; omega) (Nat.le_trans (by omega) (Nat.le_trans hx1.out.1 (by simp))) (va.heap.size + 1) (by simp) ?_)
              intro gg cap w3 hown1 hgrow hat hlt'
              have hv9 := fun g e => And.intro (hO1.out.1.lt g e).1 (hO1.out.2.1 g e).1
              have hO3 := Lib.hid (Out.row hO1.out ho1.out hx1.out.1 (by omega) hgrow hown1 hat hlt')
              obtain ⟨t0, t1, t2, t3⟩ := HQ.out _ _ _ _ _ ⟨cell_old _ q0_0, cell_old _ q0_1, fro_old _ (by have := hx1.out.1; omega) q0_2, fro_old _ (by have := hx1.out.1; omega) q0_3⟩ hgrow hv9 (by have := hx1.out.1; simp; omega)
              have hx3 := Lib.hid (HA5.out _ _ _ ⟨Nat.le_trans hx1.out.1 (by simp), hx1.out.2.alloc (by have := hx1.out.1; omega) _⟩ hgrow hv9)
              clear hown1 hgrow hat hv9
              refine hK.out _ _ ?_ (fun hHeld => ?_)
              · exact hx3.out
              clear hK K
              try simp only [List.getElem_toArray, List.getElem_cons_succ, List.getElem_cons_zero, Act.put, List.setIfInBounds_toArray, List.set_cons_zero, List.set_cons_succ]
              refine wpAnyH_take (i := 7) (v := ?_) rfl (by kernel_rfl) (by kernel_rfl) (by kernel_rfl) (fun _ _ _ h => h) (Or.inl ⟨by rfl, ?_⟩) (by assumption) ?_
              rotate_left
              · intro w9 hSw; (try dsimp only at hSw); go_simp; try with_reducible rfl
              try simp only [List.getElem_toArray, List.getElem_cons_succ, List.getElem_cons_zero, Act.put, List.setIfInBounds_toArray, List.set_cons_zero, List.set_cons_succ]
              refine wpAnyH_ready (rs := [8]) (by kernel_rfl) (by simp) ?_
              refine AllReadyH.cons rfl (fun K hK => ?_) ?_
              · go_simp
                refine hK.out _ _ ?_ (fun hHeld => ?_)
                · exact ⟨by rw [size_set]; exact hx3.out.1, hx3.out.2.setCell (by simp) _⟩
                clear hK K
                try simp only [List.getElem_toArray, List.getElem_cons_succ, List.getElem_cons_zero, Act.put, List.setIfInBounds_toArray, List.set_cons_zero, List.set_cons_succ]
                refine wpAnyH_done (by kernel_rfl) ?_ _
                refine NoPanic.normal ?_
                have HO6 := Lib.hid (show Out w0.heap.size (w0.heap.size + 2) (w3.setCell ⟨w0.heap.size + 2, 0, none⟩ (Value.slice (some ⟨gg, 0, none⟩) (RR.length + 1) cap)).heap.size (w3.setCell ⟨w0.heap.size + 2, 0, none⟩ (Value.slice (some ⟨gg, 0, none⟩) (RR.length + 1) cap)) (Value.slice (some ⟨gg, 0, none⟩) (RR.length + 1) cap) l (cs ++ [.slice p1 r.length q1]) (RR ++ [r]) LL from by rw [size_set]; exact hO3.out.set 0 _)
                have HY6 := Lib.hid (show (w3.setCell ⟨w0.heap.size + 2, 0, none⟩ (Value.slice (some ⟨gg, 0, none⟩) (RR.length + 1) cap)).cell? ⟨w0.heap.size + 2, 0, none⟩ = some ((Value.slice (some ⟨gg, 0, none⟩) (RR.length + 1) cap)) ∧ (w3.setCell ⟨w0.heap.size + 2, 0, none⟩ (Value.slice (some ⟨gg, 0, none⟩) (RR.length + 1) cap)).cell? ⟨w0.heap.size + 2, 1, none⟩ = some (l) ∧ (w3.setCell ⟨w0.heap.size + 2, 0, none⟩ (Value.slice (some ⟨gg, 0, none⟩) (RR.length + 1) cap)).frozen? ⟨w0.heap.size + 2, 0, none⟩ = false ∧ (w3.setCell ⟨w0.heap.size + 2, 0, none⟩ (Value.slice (some ⟨gg, 0, none⟩) (RR.length + 1) cap)).frozen? ⟨w0.heap.size + 2, 1, none⟩ = false from ⟨World.cell?_setCell_same _ _ _ t0, (World.cell?_setCell_other _ _ _ _ (by simp)).trans t1, by rw [World.frozen?_setCell]; exact t2, by rw [World.frozen?_setCell]; exact t3⟩)
                have hb6 := Lib.hid hHeld.2
                have hs6 : w0.heap.size + 2 + 1 ≤ (w3.setCell ⟨w0.heap.size + 2, 0, none⟩ (Value.slice (some ⟨gg, 0, none⟩) (RR.length + 1) cap)).heap.size := by have := hHeld.1; omega
                generalize hw : (w3.setCell ⟨w0.heap.size + 2, 0, none⟩ (Value.slice (some ⟨gg, 0, none⟩) (RR.length + 1) cap)) = wB at *
                clear hw hHeld t0 t1 t2 t3
                have x8 := cell_below hb6.out XQ.out hbz
                have y1 := HY6.out.2.1
                have z1 : ∀ O, (wB.alloc O).cell? ⟨w0.heap.size + 2, 1, none⟩ = some l := fun O => cell_old O y1
                have i6 := HI.out
                have HA6 := Lib.hid (show ∀ (W W3 : World) (o : Option Nat), (W.cell? ⟨bz, oz + k, none⟩ = some (.int .i64 z) ∧ wB.heap.size ≤ W.heap.size ∧ Below w0.heap.size w0 W) → W.grownBy W3 o → (∀ g, o = some g → w0.heap.size ≤ g ∧ g ≠ w0.heap.size + 2) → (W3.cell? ⟨bz, oz + k, none⟩ = some (.int .i64 z) ∧ wB.heap.size ≤ W3.heap.size ∧ Below w0.heap.size w0 W3) from fun W W3 o hS hg ho => by
                  have nf : ∀ q, some q = o → q < w0.heap.size → False := fun q e h => by have := (ho q e.symm).1; omega
                  exact ⟨hg.cell hS.1 (fun e => nf _ e (by simp; omega)), Nat.le_trans hS.2.1 hg.size, hS.2.2.grown hg (by have := hS.2.1; omega) (fun g e => (ho g e).1)⟩)
                go_wp2_with fail
                refine wp_region_noPanic ?_
                refine wp_region_held_drew (S := fun w' => w'.cell? ⟨bz, oz + k, none⟩ = some (.int .i64 z) ∧ wB.heap.size ≤ w'.heap.size ∧ Below w0.heap.size w0 w') (by kernel_rfl) ?_ (fun hHeld => ?_)
                · exact ⟨x8, Nat.le_refl _, hb6.out.drew⟩
                refine wpAnyH_take (i := 0) (v := ?_) rfl (by kernel_rfl) (by kernel_rfl) (by kernel_rfl) (fun _ _ _ h => h) (Or.inl ⟨by rfl, ?_⟩) (by assumption) ?_
                rotate_left
                · intro w9 hSw; (try dsimp only at hSw); go_simp; try with_reducible rfl
                try simp only [List.getElem_toArray, List.getElem_cons_succ, List.getElem_cons_zero, Act.put, List.setIfInBounds_toArray, List.set_cons_zero, List.set_cons_succ]
                refine wpAnyH_take (i := 2) (v := ?_) rfl (by kernel_rfl) (by kernel_rfl) (by kernel_rfl) (fun _ _ _ h => h) (Or.inl ⟨by rfl, ?_⟩) (by assumption) ?_
                rotate_left
                · intro w9 hSw; (try dsimp only at hSw); go_simp; try with_reducible rfl
                try simp only [List.getElem_toArray, List.getElem_cons_succ, List.getElem_cons_zero, Act.put, List.setIfInBounds_toArray, List.set_cons_zero, List.set_cons_succ]
                refine wpAnyH_take (i := 3) (v := ?_) rfl (by kernel_rfl) (by kernel_rfl) (by kernel_rfl) (fun _ _ _ h => h) (Or.inl ⟨by rfl, ?_⟩) (by assumption) ?_
                rotate_left
                · intro w9 hSw; (try dsimp only at hSw); go_simp; try with_reducible rfl
                try simp only [List.getElem_toArray, List.getElem_cons_succ, List.getElem_cons_zero, Act.put, List.setIfInBounds_toArray, List.set_cons_zero, List.set_cons_succ]
                refine wpAnyH_take (i := 4) (v := ?_) rfl (by kernel_rfl) (by kernel_rfl) (by kernel_rfl) (fun _ _ _ h => h) (Or.inl ⟨by rfl, ?_⟩) (by assumption) ?_
                rotate_left
                · intro w9 hSw; (try dsimp only at hSw); go_simp; try with_reducible rfl
                try simp only [List.getElem_toArray, List.getElem_cons_succ, List.getElem_cons_zero, Act.put, List.setIfInBounds_toArray, List.set_cons_zero, List.set_cons_succ]
                refine wpAnyH_take (i := 5) (v := ?_) rfl (by kernel_rfl) (by kernel_rfl) (by kernel_rfl) (fun _ _ _ h => h) (Or.inl ⟨by rfl, ?_⟩) (by assumption) ?_
                rotate_left
                · intro w9 hSw; (try dsimp only at hSw); go_simp; try with_reducible rfl
                try simp only [List.getElem_toArray, List.getElem_cons_succ, List.getElem_cons_zero, Act.put, List.setIfInBounds_toArray, List.set_cons_zero, List.set_cons_succ]
                refine wpAnyH_take (i := 6) (v := ?_) rfl (by kernel_rfl) (by kernel_rfl) (by kernel_rfl) (fun _ _ _ h => h) (Or.inl ⟨by rfl, ?_⟩) (by assumption) ?_
                rotate_left
                · intro w9 hSw; (try dsimp only at hSw); go_simp; try with_reducible rfl
                try simp only [List.getElem_toArray, List.getElem_cons_succ, List.getElem_cons_zero, Act.put, List.setIfInBounds_toArray, List.set_cons_zero, List.set_cons_succ]
                refine wpAnyH_take (i := 7) (v := ?_) rfl (by kernel_rfl) (by kernel_rfl) (by kernel_rfl) (fun _ _ _ h => h) (Or.inl ⟨by rfl, ?_⟩) (by assumption) ?_
                rotate_left
                · intro w9 hSw; (try dsimp only at hSw); go_simp; try with_reducible rfl
                try simp only [List.getElem_toArray, List.getElem_cons_succ, List.getElem_cons_zero, Act.put, List.setIfInBounds_toArray, List.set_cons_zero, List.set_cons_succ]
                refine wpAnyH_ready (rs := [1, 8]) (by kernel_rfl) (by simp) ?_
                refine AllReadyH.cons rfl (fun K hK => ?_) ?_
                · go_simp
                  refine hK.out _ _ ?_ (fun hHeld => ?_)
                  · exact hHeld
                  clear hK K
                  try simp only [List.getElem_toArray, List.getElem_cons_succ, List.getElem_cons_zero, Act.put, List.setIfInBounds_toArray, List.set_cons_zero, List.set_cons_succ]
                  refine wpAnyH_ready (rs := [8]) (by kernel_rfl) (by simp) ?_
                  refine AllReadyH.cons rfl (fun K hK => ?_) ?_
                  · go_simp
                    refine hK.out _ _ ?_ (fun hHeld => ?_)
                    · exact ⟨cell_old _ hHeld.1, Nat.le_trans hHeld.2.1 (by simp), hHeld.2.2.alloc (by have := hHeld.2.1; omega) _⟩
                    clear hK K
                    try simp only [List.getElem_toArray, List.getElem_cons_succ, List.getElem_cons_zero, Act.put, List.setIfInBounds_toArray, List.set_cons_zero, List.set_cons_succ]
                    refine wpAnyH_ready (rs := [9]) (by kernel_rfl) (by simp) ?_
                    refine AllReadyH.cons rfl (fun K hK => ?_) ?_
                    · (refine step_append_lies _ (by rfl) _ _ _ (by rfl) w0.heap.size 3 iI _ 1 8 Try.underlying23 hi' hz0' hz1' hz2' rfl (by omega) l LL.length (LL.map (Value.int .i64)) (by rfl) (HO6.out.2.2.2.1.alloc _).drew ⟨wB.heap.size, 0, none⟩ 1 1 [.int .i64 (2 * z - 1)] (by rfl) (by rfl) (World.news_of_block (cs := #[.int .i64 (2 * z - 1)]) (t := 3) (fr := (0, 0)) (heap_alloc_new wB.drew _)) (by simp [Value.oneCell']) (by omega) (by have := HLl.out; unfold maxLen; omega) (by have := HLl.out; omega) (by simp; omega) (wB.heap.size + 1) (by simp) ?_)
                      intro gg2 cap2 w5 hown2 hgrow2 hat2 hlt2
                      have hv8 := fun g e => And.intro (HO6.out.2.2.2.1.lt g e).1 (HO6.out.2.2.2.2.1 g e).1
                      have hO5 := Lib.hid (Out.label (W := wB.drew) (O := .cells #[.int .i64 (2 * z - 1)] 3) (HO6.out.below (Below.refl _ _).drew) (Nat.le_refl _) (by omega) hgrow2 hown2 hat2 hlt2)
                      obtain ⟨t0, t1, t2, t3⟩ := HQ.out ((wB.alloc (.cells #[.int .i64 (2 * z - 1)] 3)).drew) _ _ _ _ ⟨cell_oldD _ HY6.out.1, cell_oldD _ HY6.out.2.1, fro_oldD _ (by omega) HY6.out.2.2.1, fro_oldD _ (by omega) HY6.out.2.2.2⟩ hgrow2 hv8 (by simp; omega)
                      have hx5 := Lib.hid (HA6.out _ _ _ hHeld hgrow2 hv8)
                      clear hown2 hgrow2 hat2 hv8
                      refine hK.out _ _ ?_ (fun hHeld => ?_)
                      · exact hx5.out
                      clear hK K
                      try simp only [List.getElem_toArray, List.getElem_cons_succ, List.getElem_cons_zero, Act.put, List.setIfInBounds_toArray, List.set_cons_zero, List.set_cons_succ]
                      refine wpAnyH_take (i := 10) (v := ?_) rfl (by kernel_rfl) (by kernel_rfl) (by kernel_rfl) (fun _ _ _ h => h) (Or.inl ⟨by rfl, ?_⟩) (by assumption) ?_
                      rotate_left
                      · intro w9 hSw; (try dsimp only at hSw); go_simp; try with_reducible rfl
                      try simp only [List.getElem_toArray, List.getElem_cons_succ, List.getElem_cons_zero, Act.put, List.setIfInBounds_toArray, List.set_cons_zero, List.set_cons_succ]
                      refine wpAnyH_ready (rs := [11]) (by kernel_rfl) (by simp) ?_
                      refine AllReadyH.cons rfl (fun K hK => ?_) ?_
                      · go_simp
                        refine hK.out _ _ ?_ (fun hHeld => ?_)
                        · exact ⟨cell_set hx5.out.1 (by simp; omega) _, by rw [size_set]; exact hx5.out.2.1, hx5.out.2.2.setCell (by simp) _⟩
                        clear hK K
                        try simp only [List.getElem_toArray, List.getElem_cons_succ, List.getElem_cons_zero, Act.put, List.setIfInBounds_toArray, List.set_cons_zero, List.set_cons_succ]
                        refine wpAnyH_done (by kernel_rfl) ?_ _
                        refine NoPanic.normal ?_
                        have HO7 := Lib.hid (show Out w0.heap.size (w0.heap.size + 2) (w5.setCell ⟨w0.heap.size + 2, 1, none⟩ (Value.slice (some ⟨gg2, 0, none⟩) (LL.length + 1) cap2)).heap.size (w5.setCell ⟨w0.heap.size + 2, 1, none⟩ (Value.slice (some ⟨gg2, 0, none⟩) (LL.length + 1) cap2)) (Value.slice (some ⟨gg, 0, none⟩) (RR.length + 1) cap) (Value.slice (some ⟨gg2, 0, none⟩) (LL.length + 1) cap2) (cs ++ [.slice p1 r.length q1]) (RR ++ [r]) (LL ++ [2 * z - 1]) from by rw [size_set]; exact hO5.out.set 1 _)
                        have HY7 := Lib.hid (show (w5.setCell ⟨w0.heap.size + 2, 1, none⟩ (Value.slice (some ⟨gg2, 0, none⟩) (LL.length + 1) cap2)).cell? ⟨w0.heap.size + 2, 0, none⟩ = some ((Value.slice (some ⟨gg, 0, none⟩) (RR.length + 1) cap)) ∧ (w5.setCell ⟨w0.heap.size + 2, 1, none⟩ (Value.slice (some ⟨gg2, 0, none⟩) (LL.length + 1) cap2)).cell? ⟨w0.heap.size + 2, 1, none⟩ = some ((Value.slice (some ⟨gg2, 0, none⟩) (LL.length + 1) cap2)) ∧ (w5.setCell ⟨w0.heap.size + 2, 1, none⟩ (Value.slice (some ⟨gg2, 0, none⟩) (LL.length + 1) cap2)).frozen? ⟨w0.heap.size + 2, 0, none⟩ = false ∧ (w5.setCell ⟨w0.heap.size + 2, 1, none⟩ (Value.slice (some ⟨gg2, 0, none⟩) (LL.length + 1) cap2)).frozen? ⟨w0.heap.size + 2, 1, none⟩ = false from ⟨(World.cell?_setCell_other _ _ _ _ (by simp)).trans t0, World.cell?_setCell_same _ _ _ t1, by rw [World.frozen?_setCell]; exact t2, by rw [World.frozen?_setCell]; exact t3⟩)
                        have hb7 := Lib.hid hHeld.2.2
                        have hs7 : w0.heap.size + 2 + 1 ≤ (w5.setCell ⟨w0.heap.size + 2, 1, none⟩ (Value.slice (some ⟨gg2, 0, none⟩) (LL.length + 1) cap2)).heap.size := by have := hHeld.2.1; omega
                        clear hHeld t0 t1 t2 t3
                        go_wp2_with fail
                        go_roundw
                        case rel => exact ⟨k + 1, _, _, _, by omega, by go_num, HY7, by rw [HSR.out, HSL.out]; exact HO7, hb7, hs7⟩
                        case measure => simp [intOf]; omega
                      exact AllReadyH.nil
                    exact AllReadyH.nil
                  exact AllReadyH.nil
                refine AllReadyH.cons rfl (fun K hK => ?_) ?_
                · go_simp
                  refine hK.out _ _ ?_ (fun hHeld => ?_)
                  · exact ⟨cell_old _ hHeld.1, Nat.le_trans hHeld.2.1 (by simp), hHeld.2.2.alloc (by have := hHeld.2.1; omega) _⟩
                  clear hK K
                  try simp only [List.getElem_toArray, List.getElem_cons_succ, List.getElem_cons_zero, Act.put, List.setIfInBounds_toArray, List.set_cons_zero, List.set_cons_succ]
                  refine wpAnyH_ready (rs := [1]) (by kernel_rfl) (by simp) ?_
                  refine AllReadyH.cons rfl (fun K hK => ?_) ?_
                  · go_simp
                    refine hK.out _ _ ?_ (fun hHeld => ?_)
                    · exact hHeld
                    clear hK K
                    try simp only [List.getElem_toArray, List.getElem_cons_succ, List.getElem_cons_zero, Act.put, List.setIfInBounds_toArray, List.set_cons_zero, List.set_cons_succ]
                    refine wpAnyH_ready (rs := [9]) (by kernel_rfl) (by simp) ?_
                    refine AllReadyH.cons rfl (fun K hK => ?_) ?_
                    · (refine step_append_lies _ (by rfl) _ _ _ (by rfl) w0.heap.size 3 iI _ 1 8 Try.underlying23 hi' hz0' hz1' hz2' rfl (by omega) l LL.length (LL.map (Value.int .i64)) (by rfl) (HO6.out.2.2.2.1.alloc _).drew ⟨wB.heap.size, 0, none⟩ 1 1 [.int .i64 (2 * z - 1)] (by rfl) (by rfl) (World.news_of_block (cs := #[.int .i64 (2 * z - 1)]) (t := 3) (fr := (0, 0)) (heap_alloc_new wB.drew _)) (by simp [Value.oneCell']) (by omega) (by have := HLl.out; unfold maxLen; omega) (by have := HLl.out; omega) (by simp; omega) (wB.heap.size + 1) (by simp) ?_)
                      intro gg2 cap2 w5 hown2 hgrow2 hat2 hlt2
                      have hv8 := fun g e => And.intro (HO6.out.2.2.2.1.lt g e).1 (HO6.out.2.2.2.2.1 g e).1
                      have hO5 := Lib.hid (Out.label (W := wB.drew) (O := .cells #[.int .i64 (2 * z - 1)] 3) (HO6.out.below (Below.refl _ _).drew) (Nat.le_refl _) (by omega) hgrow2 hown2 hat2 hlt2)
                      obtain ⟨t0, t1, t2, t3⟩ := HQ.out ((wB.alloc (.cells #[.int .i64 (2 * z - 1)] 3)).drew) _ _ _ _ ⟨cell_oldD _ HY6.out.1, cell_oldD _ HY6.out.2.1, fro_oldD _ (by omega) HY6.out.2.2.1, fro_oldD _ (by omega) HY6.out.2.2.2⟩ hgrow2 hv8 (by simp; omega)
                      have hx5 := Lib.hid (HA6.out _ _ _ hHeld hgrow2 hv8)
                      clear hown2 hgrow2 hat2 hv8
                      refine hK.out _ _ ?_ (fun hHeld => ?_)
                      · exact hx5.out
                      clear hK K
                      try simp only [List.getElem_toArray, List.getElem_cons_succ, List.getElem_cons_zero, Act.put, List.setIfInBounds_toArray, List.set_cons_zero, List.set_cons_succ]
                      refine wpAnyH_take (i := 10) (v := ?_) rfl (by kernel_rfl) (by kernel_rfl) (by kernel_rfl) (fun _ _ _ h => h) (Or.inl ⟨by rfl, ?_⟩) (by assumption) ?_
                      rotate_left
                      · intro w9 hSw; (try dsimp only at hSw); go_simp; try with_reducible rfl
                      try simp only [List.getElem_toArray, List.getElem_cons_succ, List.getElem_cons_zero, Act.put, List.setIfInBounds_toArray, List.set_cons_zero, List.set_cons_succ]
                      refine wpAnyH_ready (rs := [11]) (by kernel_rfl) (by simp) ?_
                      refine AllReadyH.cons rfl (fun K hK => ?_) ?_
                      · go_simp
                        refine hK.out _ _ ?_ (fun hHeld => ?_)
                        · exact ⟨cell_set hx5.out.1 (by simp; omega) _, by rw [size_set]; exact hx5.out.2.1, hx5.out.2.2.setCell (by simp) _⟩
                        clear hK K
                        try simp only [List.getElem_toArray, List.getElem_cons_succ, List.getElem_cons_zero, Act.put, List.setIfInBounds_toArray, List.set_cons_zero, List.set_cons_succ]
                        refine wpAnyH_done (by kernel_rfl) ?_ _
                        refine NoPanic.normal ?_
                        have HO7 := Lib.hid (show Out w0.heap.size (w0.heap.size + 2) (w5.setCell ⟨w0.heap.size + 2, 1, none⟩ (Value.slice (some ⟨gg2, 0, none⟩) (LL.length + 1) cap2)).heap.size (w5.setCell ⟨w0.heap.size + 2, 1, none⟩ (Value.slice (some ⟨gg2, 0, none⟩) (LL.length + 1) cap2)) (Value.slice (some ⟨gg, 0, none⟩) (RR.length + 1) cap) (Value.slice (some ⟨gg2, 0, none⟩) (LL.length + 1) cap2) (cs ++ [.slice p1 r.length q1]) (RR ++ [r]) (LL ++ [2 * z - 1]) from by rw [size_set]; exact hO5.out.set 1 _)
                        have HY7 := Lib.hid (show (w5.setCell ⟨w0.heap.size + 2, 1, none⟩ (Value.slice (some ⟨gg2, 0, none⟩) (LL.length + 1) cap2)).cell? ⟨w0.heap.size + 2, 0, none⟩ = some ((Value.slice (some ⟨gg, 0, none⟩) (RR.length + 1) cap)) ∧ (w5.setCell ⟨w0.heap.size + 2, 1, none⟩ (Value.slice (some ⟨gg2, 0, none⟩) (LL.length + 1) cap2)).cell? ⟨w0.heap.size + 2, 1, none⟩ = some ((Value.slice (some ⟨gg2, 0, none⟩) (LL.length + 1) cap2)) ∧ (w5.setCell ⟨w0.heap.size + 2, 1, none⟩ (Value.slice (some ⟨gg2, 0, none⟩) (LL.length + 1) cap2)).frozen? ⟨w0.heap.size + 2, 0, none⟩ = false ∧ (w5.setCell ⟨w0.heap.size + 2, 1, none⟩ (Value.slice (some ⟨gg2, 0, none⟩) (LL.length + 1) cap2)).frozen? ⟨w0.heap.size + 2, 1, none⟩ = false from ⟨(World.cell?_setCell_other _ _ _ _ (by simp)).trans t0, World.cell?_setCell_same _ _ _ t1, by rw [World.frozen?_setCell]; exact t2, by rw [World.frozen?_setCell]; exact t3⟩)
                        have hb7 := Lib.hid hHeld.2.2
                        have hs7 : w0.heap.size + 2 + 1 ≤ (w5.setCell ⟨w0.heap.size + 2, 1, none⟩ (Value.slice (some ⟨gg2, 0, none⟩) (LL.length + 1) cap2)).heap.size := by have := hHeld.2.1; omega
                        clear hHeld t0 t1 t2 t3
                        go_wp2_with fail
                        go_roundw
                        case rel => exact ⟨k + 1, _, _, _, by omega, by go_num, HY7, by rw [HSR.out, HSL.out]; exact HO7, hb7, hs7⟩
                        case measure => simp [intOf]; omega
                      exact AllReadyH.nil
                    exact AllReadyH.nil
                  exact AllReadyH.nil
                exact AllReadyH.nil
              exact AllReadyH.nil
            exact AllReadyH.nil
          exact AllReadyH.nil
        exact AllReadyH.nil
      exact AllReadyH.nil
    · obtain rfl : k = zs.length := by omega
      have HS := Lib.hid (HO.out.toS (by omega))
      obtain ⟨y0, y1, _, _⟩ := HC.out
      obtain ⟨x0, x1, g0, g1⟩ := HX.out
      replace x0 := cell_below HBl.out x0 (by omega)
      replace x1 := cell_below HBl.out x1 (by omega)
      replace g0 := fro_below HBl.out g0 (by omega)
      replace g1 := fro_below HBl.out g1 (by omega)
      have HBE := Lib.hid (HB0.out.trans (HBl.out.mono (by omega)))
      have hs9 := HBl.out.size
      obtain ⟨p1, q1, rfl, _, _, _⟩ := HS.out.grid.slice
      obtain ⟨p2, q2, rfl, _, _, _⟩ := HS.out.ints.slice
      go_wp2_with fail
      refine bodyPost_ret (v := .agg #[.slice p1 (toldR n zs.length).length q1, .slice p2 (toldL zs zs.length).length q2]) (by simp [results, Try.results128, go_sem, x0, x1]) rfl ⟨_, _, rfl, ?_, ?_⟩
      · simp only [size_set]; exact ((HS.out.set (by simp; omega) _).set (by simp; omega) _).mono (by omega) (Nat.le_refl _)
      · exact (HBE.out.setCell (by simp) _).setCell (by simp) _
end Go.Proofs.Ytldimbipjjjghaa.told
