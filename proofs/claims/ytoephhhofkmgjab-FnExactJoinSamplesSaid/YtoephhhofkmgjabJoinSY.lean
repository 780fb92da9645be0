/- The walk of the program's JoinSamples where it gives a sample. -/
import Derived.Test.YtoephhhofkmgjabJoinSI
namespace Go.Proofs.Ytoephhhofkmgjab.joinsy
open Go.RowKit own own1 pp nums samplesv samplest samplefns concate joinsi
set_option linter.unusedVariables false
set_option linter.unusedSimpArgs false
attribute [local go_sem ↓] Go.wp_at_zero Go.wp_at_succ

set_option maxRecDepth 100000 in
set_option maxHeartbeats 4000000 in
theorem impl_yes (a : Option Addr) (rows : List (List Int)) (c : Nat) (a' : Option Addr) (zs : List Int) (c' : Nat) (b : Option Addr) (rows1 : List (List Int)) (d : Nat) (b' : Option Addr) (zs1 : List Int) (d' : Nat) (w : World) (hr : grid.Reads w a rows) (hz : ints.Reads .i64 w a' zs) (hr1 : grid.Reads w b rows1) (hz1 : ints.Reads .i64 w b' zs1) (hn : rows.length ≤ 1048576) (hk : zs.length ≤ 1048576) (hm : ∀ r ∈ rows, r.length ≤ 1048576) (hn1 : rows1.length ≤ 1048576) (hk1 : zs1.length ≤ 1048576) (hm1 : ∀ r ∈ rows1, r.length ≤ 1048576) (h1 : Hid (sampleB rows zs = true)) (h2 : Hid (sampleB rows1 zs1 = true)) (h : Hid (sampleB (rows ++ rows1) (zs ++ zs1) = true)) :
    Calls Try.prog 33 #[.agg #[.slice a rows.length c, .slice a' zs.length c'], .agg #[.slice b rows1.length d, .slice b' zs1.length d']] w (RetSB (rows ++ rows1) (zs ++ zs1) true w) := by
  have HMM := Lib.hid hm
  have HM1 := Lib.hid hm1
  clear hm hm1
  obtain ⟨hs0, hl0, hc0, ho0, hh0⟩ := heads_of hr
  obtain ⟨hs1, hl1, hc1, ho1, hh1⟩ := heads_of hr1
  have h16 := ((sampleB_iff _ _).1 h1.out).1
  have h16' := ((sampleB_iff _ _).1 h2.out).1
  obtain ⟨R, hR⟩ : ∃ R, R = rows ++ rows1 := ⟨_, rfl⟩
  obtain ⟨Z, hZ⟩ : ∃ Z, Z = zs ++ zs1 := ⟨_, rfl⟩
  obtain ⟨H, hH⟩ : ∃ H, H = hs0 ++ hs1 := ⟨_, rfl⟩
  have hHl : H.length = R.length := by rw [hH, hR, List.length_append, List.length_append, hl0, hl1]
  have hRl : R.length ≤ 2097152 := by rw [hR, List.length_append]; omega
  have HHD := Lib.hid (show Heads w H R by rw [hH, hR]; exact hh0.append hl0 hh1)
  have HMR := Lib.hid (show ∀ r ∈ R, r.length ≤ 1048576 by rw [hR]; intro r hx; rcases List.mem_append.1 hx with hx | hx; exact HMM.out r hx; exact HM1.out r hx)
  have HCR := Lib.hid (show ∀ (g : Nat) (wa : World), Below w.heap.size w wa → wa.cell? ⟨g, 0, none⟩ = some (.slice a rows.length c) → wa.cell? ⟨g, 1, none⟩ = some (.slice b rows1.length d) → g < wa.heap.size → Calls Try.prog 65 #[.slice (some ⟨g, 0, none⟩) 2 2] wa (fun e w' => ∃ p q, e = .returned (.slice p R.length q) ∧ OwnV 22 wa.heap.size w'.heap.size w' (.slice p R.length q) H ∧ Below wa.heap.size wa w') from fun g wa hb k0 k1 hg => by
    refine (concatR g 2 a hs0 c b hs1 d wa (hc0.below hb) (hc1.below hb) ho0 ho1 (by omega) (by omega) (by rw [hl0]; exact k0) (by rw [hl1]; exact k1) hg).mono ?_
    rintro e w' ⟨v, rfl, ho, hb'⟩
    rw [← hH] at ho
    obtain ⟨p, q, hv⟩ := own_slice ho
    rw [hHl] at hv
    subst hv
    exact ⟨p, q, rfl, ⟨ho, fun g hg => (ho.lt g hg).2⟩, hb'⟩)
  have HCL := Lib.hid (show ∀ (g : Nat) (wa : World), Below w.heap.size w wa → wa.cell? ⟨g, 0, none⟩ = some (.slice a' zs.length c') → wa.cell? ⟨g, 1, none⟩ = some (.slice b' zs1.length d') → g < wa.heap.size → Calls Try.prog 66 #[.slice (some ⟨g, 0, none⟩) 2 2] wa (fun e w' => ∃ p q, e = .returned (.slice p Z.length q) ∧ OwnV 3 wa.heap.size w'.heap.size w' (.slice p Z.length q) (Z.map (Value.int .i64)) ∧ Below wa.heap.size wa w') from fun g wa hb k0 k1 hg => by
    refine (concatI g 2 a' (zs.map (Value.int .i64)) c' b' (zs1.map (Value.int .i64)) d' wa (cells_ints (hz.below hb)) (cells_ints (hz1.below hb)) (fun u hu => by obtain ⟨z, _, rfl⟩ := List.mem_map.1 hu; simp [Value.oneCell']) (fun u hu => by obtain ⟨z, _, rfl⟩ := List.mem_map.1 hu; simp [Value.oneCell']) (by simpa using hk) (by simpa using hk1) (by rw [List.length_map]; exact k0) (by rw [List.length_map]; exact k1) hg).mono ?_
    rintro e w' ⟨v, rfl, ho, hb'⟩
    rw [← List.map_append, ← hZ] at ho
    obtain ⟨p, q, hv⟩ := own_slice ho
    rw [List.length_map] at hv
    subst hv
    exact ⟨p, q, rfl, ⟨ho, fun g hg => (ho.lt g hg).2⟩, hb'⟩)
  have HRD := Lib.hid (show ∀ (W : World) (p : Option Addr) (q lo hi : Nat), OwnV 22 lo hi W (.slice p R.length q) H → Below w.heap.size w W → grid.Reads W p R from fun W p q lo hi ho hb => grid_of ho hHl (HHD.out.below hb))
  have HZD := Lib.hid (show ∀ (W : World) (p : Option Addr) (q lo hi : Nat), OwnV 3 lo hi W (.slice p Z.length q) (Z.map (Value.int .i64)) → ints.Reads .i64 W p Z from fun W p q lo hi ho => ints_of ho)
  have hZl : Z.length ≤ 1048576 := by rw [hZ, List.length_append]; have := ((sampleB_iff _ _).1 h1.out).2.1; have := ((sampleB_iff _ _).1 h2.out).2.1; omega
  have hRl2 : R.length ≤ 1048576 := by rw [hR, List.length_append]; omega
  have HCHG := Lib.hid (show ∀ (W : World) (p : Option Addr) (q : Nat) (p' : Option Addr) (q' : Nat), grid.Reads W p R → ints.Reads .i64 W p' Z → Calls Try.prog 68 #[.agg #[.slice p R.length q, .slice p' Z.length q'], .func (.func 44) #[] #[]] W (MadeS R Z W) from fun W p q p' q' k0 k1 => by
    have := changed.impl_clone (fun r => r) p R q p' Z q' W k0 k1 hRl2 hZl (Lib.hid (fun k W' p2 q2 hk2 _ hrd => changed.clone_any p2 _ q2 W' hrd (HMR.out _ (pp.getD_mem R [] k hk2))))
    rwa [List.map_id'] at this)
  have HCK := Lib.hid (show ∀ (W : World) (p : Option Addr) (q : Nat) (p' : Option Addr) (q' : Nat), grid.Reads W p R → ints.Reads .i64 W p' Z → Calls Try.prog 67 #[.agg #[.slice p R.length q, .slice p' Z.length q']] W (fun e w' => e = .returned (.tuple #[.agg #[.slice p R.length q, .slice p' Z.length q'], .bool true]) ∧ Below W.heap.size W w') from fun W p q p' q' k0 k1 => skept.impl_yes p R q p' Z q' W k0 k1 hRl2 hZl HMR.out (by rw [hR, hZ]; exact h))
  rw [← hR, ← hZ]
  clear hc0 hc1 ho0 ho1 hh0 hh1 hl0 hl1 hHl hH h16 h16' hR hZ h hRl hZl hRl2
  have Hhr := Lib.hid hr
  have Hhz := Lib.hid hz
  have Hhr1 := Lib.hid hr1
  have Hhz1 := Lib.hid hz1
  clear hr hz hr1 hz1
  go_enter Try.func33, Try.ntmps33
  go_wp2_with fail
  have x0_0 : (w.alloc (.cells #[.slice a rows.length c, .slice a' zs.length c'] 56)).cell? ⟨w.heap.size, 0, none⟩ = some (.slice a rows.length c) := cell_new _ _ _ (by simp) rfl
  have x0_1 : (w.alloc (.cells #[.slice a rows.length c, .slice a' zs.length c'] 56)).cell? ⟨w.heap.size, 1, none⟩ = some (.slice a' zs.length c') := cell_new _ _ _ (by simp) rfl
  have HB0 := Lib.hid (below_alloc w (.cells #[.slice a rows.length c, .slice a' zs.length c'] 56))
  replace x0_0 := cell_old (.cells #[.slice b rows1.length d, .slice b' zs1.length d'] 56) x0_0
  replace x0_1 := cell_old (.cells #[.slice b rows1.length d, .slice b' zs1.length d'] 56) x0_1
  have x1_0 : ((w.alloc (.cells #[.slice a rows.length c, .slice a' zs.length c'] 56)).alloc (.cells #[.slice b rows1.length d, .slice b' zs1.length d'] 56)).cell? ⟨w.heap.size + 1, 0, none⟩ = some (.slice b rows1.length d) := cell_new _ _ _ (by simp) rfl
  have x1_1 : ((w.alloc (.cells #[.slice a rows.length c, .slice a' zs.length c'] 56)).alloc (.cells #[.slice b rows1.length d, .slice b' zs1.length d'] 56)).cell? ⟨w.heap.size + 1, 1, none⟩ = some (.slice b' zs1.length d') := cell_new _ _ _ (by simp) rfl
  replace HB0 := Lib.hid (HB0.out.alloc (by simp) (.cells #[.slice b rows1.length d, .slice b' zs1.length d'] 56))
  replace x0_0 := cell_old (.cells #[.slice none 0 0, .slice none 0 0] 56) x0_0
  replace x0_1 := cell_old (.cells #[.slice none 0 0, .slice none 0 0] 56) x0_1
  replace x1_0 := cell_old (.cells #[.slice none 0 0, .slice none 0 0] 56) x1_0
  replace x1_1 := cell_old (.cells #[.slice none 0 0, .slice none 0 0] 56) x1_1
  have x2_0 : (((w.alloc (.cells #[.slice a rows.length c, .slice a' zs.length c'] 56)).alloc (.cells #[.slice b rows1.length d, .slice b' zs1.length d'] 56)).alloc (.cells #[.slice none 0 0, .slice none 0 0] 56)).cell? ⟨w.heap.size + 1 + 1, 0, none⟩ = some (.slice none 0 0) := cell_new _ _ _ (by simp) rfl
  have x2_1 : (((w.alloc (.cells #[.slice a rows.length c, .slice a' zs.length c'] 56)).alloc (.cells #[.slice b rows1.length d, .slice b' zs1.length d'] 56)).alloc (.cells #[.slice none 0 0, .slice none 0 0] 56)).cell? ⟨w.heap.size + 1 + 1, 1, none⟩ = some (.slice none 0 0) := cell_new _ _ _ (by simp) rfl
  have f2_0 : (((w.alloc (.cells #[.slice a rows.length c, .slice a' zs.length c'] 56)).alloc (.cells #[.slice b rows1.length d, .slice b' zs1.length d'] 56)).alloc (.cells #[.slice none 0 0, .slice none 0 0] 56)).frozen? ⟨w.heap.size + 1 + 1, 0, none⟩ = false := fro_new _ _ _ (by simp)
  have f2_1 : (((w.alloc (.cells #[.slice a rows.length c, .slice a' zs.length c'] 56)).alloc (.cells #[.slice b rows1.length d, .slice b' zs1.length d'] 56)).alloc (.cells #[.slice none 0 0, .slice none 0 0] 56)).frozen? ⟨w.heap.size + 1 + 1, 1, none⟩ = false := fro_new _ _ _ (by simp)
  replace HB0 := Lib.hid (HB0.out.alloc (by simp; omega) (.cells #[.slice none 0 0, .slice none 0 0] 56))
  have s0 : w.heap.size + 3 ≤ (((w.alloc (.cells #[.slice a rows.length c, .slice a' zs.length c'] 56)).alloc (.cells #[.slice b rows1.length d, .slice b' zs1.length d'] 56)).alloc (.cells #[.slice none 0 0, .slice none 0 0] 56)).heap.size := by simp
  generalize hw : (((w.alloc (.cells #[.slice a rows.length c, .slice a' zs.length c'] 56)).alloc (.cells #[.slice b rows1.length d, .slice b' zs1.length d'] 56)).alloc (.cells #[.slice none 0 0, .slice none 0 0] 56)) = w0 at *
  clear hw
  have n0_0 : w.heap.size < w0.heap.size := by omega
  have n0_1 : w.heap.size + 1 < w0.heap.size := by omega
  have n0_2 : w.heap.size + 1 + 1 < w0.heap.size := by omega
  refine (impl_sample a rows c a' zs c' _ (Hhr.out.below HB0.out) (Hhz.out.below HB0.out) hn hk HMM.out true h1).mono ?_
  rintro e w1 ⟨rfl, hb⟩
  have s1 : w0.heap.size ≤ w1.heap.size := hb.size
  have n1_0 : w.heap.size < w1.heap.size := by omega
  have n1_1 : w.heap.size + 1 < w1.heap.size := by omega
  have n1_2 : w.heap.size + 1 + 1 < w1.heap.size := by omega
  replace x0_0 := cell_below hb x0_0 (by omega)
  replace x0_1 := cell_below hb x0_1 (by omega)
  replace x1_0 := cell_below hb x1_0 (by omega)
  replace x1_1 := cell_below hb x1_1 (by omega)
  replace x2_0 := cell_below hb x2_0 (by omega)
  replace x2_1 := cell_below hb x2_1 (by omega)
  replace f2_0 := fro_below hb f2_0 (by omega)
  replace f2_1 := fro_below hb f2_1 (by omega)
  have HB1 := Lib.hid (HB0.out.trans (hb.mono (by omega)))
  clear hb
  go_wp2_with fail
  refine (impl_sample b rows1 d b' zs1 d' _ (Hhr1.out.below HB1.out) (Hhz1.out.below HB1.out) hn1 hk1 HM1.out true h2).mono ?_
  rintro e w2 ⟨rfl, hb⟩
  have s2 : w1.heap.size ≤ w2.heap.size := hb.size
  have n2_0 : w.heap.size < w2.heap.size := by omega
  have n2_1 : w.heap.size + 1 < w2.heap.size := by omega
  have n2_2 : w.heap.size + 1 + 1 < w2.heap.size := by omega
  replace x0_0 := cell_below hb x0_0 (by omega)
  replace x0_1 := cell_below hb x0_1 (by omega)
  replace x1_0 := cell_below hb x1_0 (by omega)
  replace x1_1 := cell_below hb x1_1 (by omega)
  replace x2_0 := cell_below hb x2_0 (by omega)
  replace x2_1 := cell_below hb x2_1 (by omega)
  replace f2_0 := fro_below hb f2_0 (by omega)
  replace f2_1 := fro_below hb f2_1 (by omega)
  have HB2 := Lib.hid (HB1.out.trans (hb.mono (by omega)))
  clear hb
  go_wp2_with fail
  refine wp_region_noPanic ?_
  refine wp_region_held_drew (S := fun w' => w'.cell? ⟨w.heap.size, 0, none⟩ = some (.slice a rows.length c) ∧ w'.cell? ⟨w.heap.size, 1, none⟩ = some (.slice a' zs.length c') ∧ w'.cell? ⟨w.heap.size + 1, 0, none⟩ = some (.slice b rows1.length d) ∧ w'.cell? ⟨w.heap.size + 1, 1, none⟩ = some (.slice b' zs1.length d')) (by kernel_rfl) ?_ (fun hHeld => ?_)
  · exact ⟨x0_0, x0_1, x1_0, x1_1⟩
  have hb : Below w2.heap.size w2 w2.drew := (Below.refl _ _).drew
  generalize hwn : w2.drew = v51 at *
  clear hwn
  have sz51 : w2.heap.size ≤ v51.heap.size := hb.size
  replace f2_0 := fro_keep hb x2_0 f2_0
  replace f2_1 := fro_keep hb x2_1 f2_1
  replace x0_0 := cell_keep hb x0_0
  replace x0_1 := cell_keep hb x0_1
  replace x1_0 := cell_keep hb x1_0
  replace x1_1 := cell_keep hb x1_1
  replace x2_0 := cell_keep hb x2_0
  replace x2_1 := cell_keep hb x2_1
  have HBh51 := Lib.hid (HB2.out.trans (hb.mono (by have := HB2.out.size; omega)))
  clear hb
  refine wpAnyH_take (i := 0) (v := ?_) rfl (by kernel_rfl) (by kernel_rfl) (by kernel_rfl) (fun _ _ _ h => h) (Or.inl ⟨by rfl, ?_⟩) (by assumption) ?_
  rotate_left
  · intro w9 hSw; (try dsimp only at hSw); go_simp; try with_reducible rfl
  try simp only [List.getElem_toArray, List.getElem_cons_succ, List.getElem_cons_zero, Act.put, List.setIfInBounds_toArray, List.set_cons_zero, List.set_cons_succ]
  refine wpAnyH_take (i := 1) (v := ?_) rfl (by kernel_rfl) (by kernel_rfl) (by kernel_rfl) (fun _ _ _ h => h) (Or.inl ⟨by rfl, ?_⟩) (by assumption) ?_
  rotate_left
  · intro w9 hSw; (try dsimp only at hSw); go_simp; try with_reducible rfl
  try simp only [List.getElem_toArray, List.getElem_cons_succ, List.getElem_cons_zero, Act.put, List.setIfInBounds_toArray, List.set_cons_zero, List.set_cons_succ]
  refine wpAnyH_take (i := 2) (v := ?_) rfl (by kernel_rfl) (by kernel_rfl) (by kernel_rfl) (fun _ _ _ h => h) (Or.inl ⟨by rfl, ?_⟩) (by assumption) ?_
  rotate_left
  · intro w9 hSw; (try dsimp only at hSw); go_simp; try with_reducible rfl
  try simp only [List.getElem_toArray, List.getElem_cons_succ, List.getElem_cons_zero, Act.put, List.setIfInBounds_toArray, List.set_cons_zero, List.set_cons_succ]
  refine wpAnyH_take (i := 3) (v := ?_) rfl (by kernel_rfl) (by kernel_rfl) (by kernel_rfl) (fun _ _ _ h => h) (Or.inl ⟨by rfl, ?_⟩) (by assumption) ?_
  rotate_left
  · intro w9 hSw; (try dsimp only at hSw); go_simp; try with_reducible rfl
  try simp only [List.getElem_toArray, List.getElem_cons_succ, List.getElem_cons_zero, Act.put, List.setIfInBounds_toArray, List.set_cons_zero, List.set_cons_succ]
  refine wpAnyH_take (i := 6) (v := ?_) rfl (by kernel_rfl) (by kernel_rfl) (by kernel_rfl) (fun _ _ _ h => h) (Or.inl ⟨by rfl, ?_⟩) (by assumption) ?_
  rotate_left
  · intro w9 hSw; (try dsimp only at hSw); go_simp; try with_reducible rfl
  try simp only [List.getElem_toArray, List.getElem_cons_succ, List.getElem_cons_zero, Act.put, List.setIfInBounds_toArray, List.set_cons_zero, List.set_cons_succ]
  refine wpAnyH_take (i := 7) (v := ?_) rfl (by kernel_rfl) (by kernel_rfl) (by kernel_rfl) (fun _ _ _ h => h) (Or.inl ⟨by rfl, ?_⟩) (by assumption) ?_
  rotate_left
  · intro w9 hSw; (try dsimp only at hSw); go_simp; try with_reducible rfl
  try simp only [List.getElem_toArray, List.getElem_cons_succ, List.getElem_cons_zero, Act.put, List.setIfInBounds_toArray, List.set_cons_zero, List.set_cons_succ]
  refine wpAnyH_take (i := 8) (v := ?_) rfl (by kernel_rfl) (by kernel_rfl) (by kernel_rfl) (fun _ _ _ h => h) (Or.inl ⟨by rfl, ?_⟩) (by assumption) ?_
  rotate_left
  · intro w9 hSw; (try dsimp only at hSw); go_simp; try with_reducible rfl
  try simp only [List.getElem_toArray, List.getElem_cons_succ, List.getElem_cons_zero, Act.put, List.setIfInBounds_toArray, List.set_cons_zero, List.set_cons_succ]
  refine wpAnyH_take (i := 9) (v := ?_) rfl (by kernel_rfl) (by kernel_rfl) (by kernel_rfl) (fun _ _ _ h => h) (Or.inl ⟨by rfl, ?_⟩) (by assumption) ?_
  rotate_left
  · intro w9 hSw; (try dsimp only at hSw); go_simp; try with_reducible rfl
  try simp only [List.getElem_toArray, List.getElem_cons_succ, List.getElem_cons_zero, Act.put, List.setIfInBounds_toArray, List.set_cons_zero, List.set_cons_succ]
  refine wpAnyH_ready (rs := [4, 10, 13]) (by kernel_rfl) (by simp) ?_
  refine AllReadyH.cons rfl (fun K hK => ?_) ?_
  · skip
    clear hHeld
    go_simp
    have pa_0 : (v51.alloc (.cells #[.slice a rows.length c, .slice b rows1.length d] 28)).cell? ⟨v51.heap.size, 0, none⟩ = some (.slice a rows.length c) := cell_new _ _ _ rfl rfl
    have pa_f0 : (v51.alloc (.cells #[.slice a rows.length c, .slice b rows1.length d] 28)).frozen? ⟨v51.heap.size, 0, none⟩ = false := fro_new _ _ _ rfl
    have pa_1 : (v51.alloc (.cells #[.slice a rows.length c, .slice b rows1.length d] 28)).cell? ⟨v51.heap.size, 1, none⟩ = some (.slice b rows1.length d) := cell_new _ _ _ rfl rfl
    have pa_f1 : (v51.alloc (.cells #[.slice a rows.length c, .slice b rows1.length d] 28)).frozen? ⟨v51.heap.size, 1, none⟩ = false := fro_new _ _ _ rfl
    have hb := below_alloc v51 (.cells #[.slice a rows.length c, .slice b rows1.length d] 28)
    have lt_pa := size_alloc' v51 (.cells #[.slice a rows.length c, .slice b rows1.length d] 28)
    generalize hwn : v51.alloc (.cells #[.slice a rows.length c, .slice b rows1.length d] 28) = v52 at *
    clear hwn
    have sz52 : v51.heap.size ≤ v52.heap.size := hb.size
    replace f2_0 := fro_keep hb x2_0 f2_0
    replace f2_1 := fro_keep hb x2_1 f2_1
    replace x0_0 := cell_keep hb x0_0
    replace x0_1 := cell_keep hb x0_1
    replace x1_0 := cell_keep hb x1_0
    replace x1_1 := cell_keep hb x1_1
    replace x2_0 := cell_keep hb x2_0
    replace x2_1 := cell_keep hb x2_1
    have HBh52 := Lib.hid (HBh51.out.trans (hb.mono (by have := HBh51.out.size; omega)))
    clear hb
    obtain ⟨Bpa, hBpa⟩ : ∃ Bpa : Nat, Bpa = v51.heap.size := ⟨_, rfl⟩
    rw [← hBpa] at pa_0 pa_f0 pa_1 pa_f1 ⊢
    have hBlpa : Bpa ≤ v51.heap.size ∧ v51.heap.size ≤ Bpa := by omega
    clear hBpa
    refine hK.out _ _ ?_ (fun hHeld => ?_)
    · exact ⟨x0_0, x0_1, x1_0, x1_1⟩
    clear hK K
    try simp only [List.getElem_toArray, List.getElem_cons_succ, List.getElem_cons_zero, Act.put, List.setIfInBounds_toArray, List.set_cons_zero, List.set_cons_succ]
    refine wpAnyH_ready (rs := [5, 10, 13]) (by kernel_rfl) (by simp) ?_
    refine AllReadyH.cons rfl (fun K hK => ?_) ?_
    · skip
      clear hHeld
      go_simp
      refine (HCR.out Bpa v52 HBh52.out pa_0 pa_1 (by omega)).mono ?_
      rintro e v53 ⟨p3, q3, rfl, ho, hb⟩
      have sz53 : v52.heap.size ≤ v53.heap.size := hb.size
      replace f2_0 := fro_keep hb x2_0 f2_0
      replace f2_1 := fro_keep hb x2_1 f2_1
      replace pa_f0 := fro_keep hb pa_0 pa_f0
      replace pa_f1 := fro_keep hb pa_1 pa_f1
      replace x0_0 := cell_keep hb x0_0
      replace x0_1 := cell_keep hb x0_1
      replace x1_0 := cell_keep hb x1_0
      replace x1_1 := cell_keep hb x1_1
      replace x2_0 := cell_keep hb x2_0
      replace x2_1 := cell_keep hb x2_1
      replace pa_0 := cell_keep hb pa_0
      replace pa_1 := cell_keep hb pa_1
      have HBh53 := Lib.hid (HBh52.out.trans (hb.mono (by have := HBh52.out.size; omega)))
      clear hb
      have HOR := Lib.hid ho
      clear ho
      refine hK.out _ _ ?_ (fun hHeld => ?_)
      · exact ⟨x0_0, x0_1, x1_0, x1_1⟩
      clear hK K
      try simp only [List.getElem_toArray, List.getElem_cons_succ, List.getElem_cons_zero, Act.put, List.setIfInBounds_toArray, List.set_cons_zero, List.set_cons_succ]
      refine wpAnyH_ready (rs := [10, 13]) (by kernel_rfl) (by simp) ?_
      refine AllReadyH.cons rfl (fun K hK => ?_) ?_
      · skip
        clear hHeld
        go_simp
        have pb_0 : (v53.alloc (.cells #[.slice a' zs.length c', .slice b' zs1.length d'] 22)).cell? ⟨v53.heap.size, 0, none⟩ = some (.slice a' zs.length c') := cell_new _ _ _ rfl rfl
        have pb_f0 : (v53.alloc (.cells #[.slice a' zs.length c', .slice b' zs1.length d'] 22)).frozen? ⟨v53.heap.size, 0, none⟩ = false := fro_new _ _ _ rfl
        have pb_1 : (v53.alloc (.cells #[.slice a' zs.length c', .slice b' zs1.length d'] 22)).cell? ⟨v53.heap.size, 1, none⟩ = some (.slice b' zs1.length d') := cell_new _ _ _ rfl rfl
        have pb_f1 : (v53.alloc (.cells #[.slice a' zs.length c', .slice b' zs1.length d'] 22)).frozen? ⟨v53.heap.size, 1, none⟩ = false := fro_new _ _ _ rfl
        have hb := below_alloc v53 (.cells #[.slice a' zs.length c', .slice b' zs1.length d'] 22)
        have lt_pb := size_alloc' v53 (.cells #[.slice a' zs.length c', .slice b' zs1.length d'] 22)
        generalize hwn : v53.alloc (.cells #[.slice a' zs.length c', .slice b' zs1.length d'] 22) = v54 at *
        clear hwn
        have sz54 : v53.heap.size ≤ v54.heap.size := hb.size
        replace f2_0 := fro_keep hb x2_0 f2_0
        replace f2_1 := fro_keep hb x2_1 f2_1
        replace pa_f0 := fro_keep hb pa_0 pa_f0
        replace pa_f1 := fro_keep hb pa_1 pa_f1
        replace x0_0 := cell_keep hb x0_0
        replace x0_1 := cell_keep hb x0_1
        replace x1_0 := cell_keep hb x1_0
        replace x1_1 := cell_keep hb x1_1
        replace x2_0 := cell_keep hb x2_0
        replace x2_1 := cell_keep hb x2_1
        replace pa_0 := cell_keep hb pa_0
        replace pa_1 := cell_keep hb pa_1
        replace HOR := Lib.hid (HOR.out.below hb)
        have HBh54 := Lib.hid (HBh53.out.trans (hb.mono (by have := HBh53.out.size; omega)))
        clear hb
        obtain ⟨Bpb, hBpb⟩ : ∃ Bpb : Nat, Bpb = v53.heap.size := ⟨_, rfl⟩
        rw [← hBpb] at pb_0 pb_f0 pb_1 pb_f1 ⊢
        have hBlpb : Bpb ≤ v53.heap.size ∧ v53.heap.size ≤ Bpb := by omega
        clear hBpb
        refine hK.out _ _ ?_ (fun hHeld => ?_)
        · exact ⟨x0_0, x0_1, x1_0, x1_1⟩
        clear hK K
        try simp only [List.getElem_toArray, List.getElem_cons_succ, List.getElem_cons_zero, Act.put, List.setIfInBounds_toArray, List.set_cons_zero, List.set_cons_succ]
        refine wpAnyH_ready (rs := [11, 13]) (by kernel_rfl) (by simp) ?_
        refine AllReadyH.cons rfl (fun K hK => ?_) ?_
        · skip
          clear hHeld
          go_simp
          refine (HCL.out Bpb v54 HBh54.out pb_0 pb_1 (by omega)).mono ?_
          rintro e v55 ⟨p4, q4, rfl, ho, hb⟩
          have sz55 : v54.heap.size ≤ v55.heap.size := hb.size
          replace f2_0 := fro_keep hb x2_0 f2_0
          replace f2_1 := fro_keep hb x2_1 f2_1
          replace pa_f0 := fro_keep hb pa_0 pa_f0
          replace pa_f1 := fro_keep hb pa_1 pa_f1
          replace pb_f0 := fro_keep hb pb_0 pb_f0
          replace pb_f1 := fro_keep hb pb_1 pb_f1
          replace x0_0 := cell_keep hb x0_0
          replace x0_1 := cell_keep hb x0_1
          replace x1_0 := cell_keep hb x1_0
          replace x1_1 := cell_keep hb x1_1
          replace x2_0 := cell_keep hb x2_0
          replace x2_1 := cell_keep hb x2_1
          replace pa_0 := cell_keep hb pa_0
          replace pa_1 := cell_keep hb pa_1
          replace pb_0 := cell_keep hb pb_0
          replace pb_1 := cell_keep hb pb_1
          replace HOR := Lib.hid (HOR.out.below hb)
          have HBh55 := Lib.hid (HBh54.out.trans (hb.mono (by have := HBh54.out.size; omega)))
          clear hb
          have HOL := Lib.hid ho
          clear ho
          refine hK.out _ _ ?_ (fun hHeld => ?_)
          · exact ⟨x0_0, x0_1, x1_0, x1_1⟩
          clear hK K
          try simp only [List.getElem_toArray, List.getElem_cons_succ, List.getElem_cons_zero, Act.put, List.setIfInBounds_toArray, List.set_cons_zero, List.set_cons_succ]
          refine wpAnyH_take (i := 12) (v := ?_) rfl (by kernel_rfl) (by kernel_rfl) (by kernel_rfl) (fun _ _ _ h => h) (Or.inl ⟨by rfl, ?_⟩) (by assumption) ?_
          rotate_left
          · intro w9 hSw; (try dsimp only at hSw); go_simp; try with_reducible rfl
          try simp only [List.getElem_toArray, List.getElem_cons_succ, List.getElem_cons_zero, Act.put, List.setIfInBounds_toArray, List.set_cons_zero, List.set_cons_succ]
          refine wpAnyH_ready (rs := [13]) (by kernel_rfl) (by simp) ?_
          refine AllReadyH.cons rfl (fun K hK => ?_) AllReadyH.nil
          clear hHeld
          go_simp
          have px_0 : (v55.alloc (.cells #[.slice none 0 0, .slice none 0 0] 56)).cell? ⟨v55.heap.size, 0, none⟩ = some (.slice none 0 0) := cell_new _ _ _ rfl rfl
          have px_f0 : (v55.alloc (.cells #[.slice none 0 0, .slice none 0 0] 56)).frozen? ⟨v55.heap.size, 0, none⟩ = false := fro_new _ _ _ rfl
          have px_1 : (v55.alloc (.cells #[.slice none 0 0, .slice none 0 0] 56)).cell? ⟨v55.heap.size, 1, none⟩ = some (.slice none 0 0) := cell_new _ _ _ rfl rfl
          have px_f1 : (v55.alloc (.cells #[.slice none 0 0, .slice none 0 0] 56)).frozen? ⟨v55.heap.size, 1, none⟩ = false := fro_new _ _ _ rfl
          have hb := below_alloc v55 (.cells #[.slice none 0 0, .slice none 0 0] 56)
          have lt_px := size_alloc' v55 (.cells #[.slice none 0 0, .slice none 0 0] 56)
          generalize hwn : v55.alloc (.cells #[.slice none 0 0, .slice none 0 0] 56) = v56 at *
          clear hwn
          have sz56 : v55.heap.size ≤ v56.heap.size := hb.size
          replace f2_0 := fro_keep hb x2_0 f2_0
          replace f2_1 := fro_keep hb x2_1 f2_1
          replace pa_f0 := fro_keep hb pa_0 pa_f0
          replace pa_f1 := fro_keep hb pa_1 pa_f1
          replace pb_f0 := fro_keep hb pb_0 pb_f0
          replace pb_f1 := fro_keep hb pb_1 pb_f1
          replace x0_0 := cell_keep hb x0_0
          replace x0_1 := cell_keep hb x0_1
          replace x1_0 := cell_keep hb x1_0
          replace x1_1 := cell_keep hb x1_1
          replace x2_0 := cell_keep hb x2_0
          replace x2_1 := cell_keep hb x2_1
          replace pa_0 := cell_keep hb pa_0
          replace pa_1 := cell_keep hb pa_1
          replace pb_0 := cell_keep hb pb_0
          replace pb_1 := cell_keep hb pb_1
          replace HOR := Lib.hid (HOR.out.below hb)
          replace HOL := Lib.hid (HOL.out.below hb)
          have HBh56 := Lib.hid (HBh55.out.trans (hb.mono (by have := HBh55.out.size; omega)))
          clear hb
          obtain ⟨Bpx, hBpx⟩ : ∃ Bpx : Nat, Bpx = v55.heap.size := ⟨_, rfl⟩
          rw [← hBpx] at px_0 px_f0 px_1 px_f1 ⊢
          have hBlpx : Bpx ≤ v55.heap.size ∧ v55.heap.size ≤ Bpx := by omega
          clear hBpx
          refine hK.out _ _ ?_ (fun hHeld => ?_)
          · exact ⟨x0_0, x0_1, x1_0, x1_1⟩
          clear hK K
          try simp only [List.getElem_toArray, List.getElem_cons_succ, List.getElem_cons_zero, Act.put, List.setIfInBounds_toArray, List.set_cons_zero, List.set_cons_succ]
          refine wpAnyH_ready (rs := [14]) (by kernel_rfl) (by simp) ?_
          refine AllReadyH.cons rfl (fun K hK => ?_) AllReadyH.nil
          clear hHeld
          go_simp
          have hg : v56.grownBy ((v56.setCell ⟨Bpx, 0, none⟩ (.slice p3 R.length q3)).setCell ⟨Bpx, 1, none⟩ (.slice p4 Z.length q4)) (some (Bpx)) := grown_trans (grown_set v56 (Bpx) 0 (.slice p3 R.length q3)) (grown_set _ (Bpx) 1 (.slice p4 Z.length q4))
          have nx0 : ((v56.setCell ⟨Bpx, 0, none⟩ (.slice p3 R.length q3)).setCell ⟨Bpx, 1, none⟩ (.slice p4 Z.length q4)).cell? ⟨Bpx, 0, none⟩ = some (.slice p3 R.length q3) := (World.cell?_setCell_other _ _ _ _ (by simp)).trans (World.cell?_setCell_same _ _ _ px_0)
          have nf0 : ((v56.setCell ⟨Bpx, 0, none⟩ (.slice p3 R.length q3)).setCell ⟨Bpx, 1, none⟩ (.slice p4 Z.length q4)).frozen? ⟨Bpx, 0, none⟩ = false := by simp only [World.frozen?_setCell]; exact px_f0
          have nx1 : ((v56.setCell ⟨Bpx, 0, none⟩ (.slice p3 R.length q3)).setCell ⟨Bpx, 1, none⟩ (.slice p4 Z.length q4)).cell? ⟨Bpx, 1, none⟩ = some (.slice p4 Z.length q4) := World.cell?_setCell_same _ _ _ ((World.cell?_setCell_other _ _ _ _ (by simp)).trans px_1)
          have nf1 : ((v56.setCell ⟨Bpx, 0, none⟩ (.slice p3 R.length q3)).setCell ⟨Bpx, 1, none⟩ (.slice p4 Z.length q4)).frozen? ⟨Bpx, 1, none⟩ = false := by simp only [World.frozen?_setCell]; exact px_f1
          clear px_0 px_f0 px_1 px_f1
          generalize hwn : ((v56.setCell ⟨Bpx, 0, none⟩ (.slice p3 R.length q3)).setCell ⟨Bpx, 1, none⟩ (.slice p4 Z.length q4)) = v57 at *
          clear hwn
          have sz57 : v56.heap.size ≤ v57.heap.size := hg.size
          replace f2_0 := fro_grow hg x2_0 f2_0 (fun g e => by (have e2 : Bpx = g := by simpa using e); omega)
          replace f2_1 := fro_grow hg x2_1 f2_1 (fun g e => by (have e2 : Bpx = g := by simpa using e); omega)
          replace pa_f0 := fro_grow hg pa_0 pa_f0 (fun g e => by (have e2 : Bpx = g := by simpa using e); omega)
          replace pa_f1 := fro_grow hg pa_1 pa_f1 (fun g e => by (have e2 : Bpx = g := by simpa using e); omega)
          replace pb_f0 := fro_grow hg pb_0 pb_f0 (fun g e => by (have e2 : Bpx = g := by simpa using e); omega)
          replace pb_f1 := fro_grow hg pb_1 pb_f1 (fun g e => by (have e2 : Bpx = g := by simpa using e); omega)
          replace x0_0 := cell_grow hg x0_0 (fun g e => by (have e2 : Bpx = g := by simpa using e); omega)
          replace x0_1 := cell_grow hg x0_1 (fun g e => by (have e2 : Bpx = g := by simpa using e); omega)
          replace x1_0 := cell_grow hg x1_0 (fun g e => by (have e2 : Bpx = g := by simpa using e); omega)
          replace x1_1 := cell_grow hg x1_1 (fun g e => by (have e2 : Bpx = g := by simpa using e); omega)
          replace x2_0 := cell_grow hg x2_0 (fun g e => by (have e2 : Bpx = g := by simpa using e); omega)
          replace x2_1 := cell_grow hg x2_1 (fun g e => by (have e2 : Bpx = g := by simpa using e); omega)
          replace pa_0 := cell_grow hg pa_0 (fun g e => by (have e2 : Bpx = g := by simpa using e); omega)
          replace pa_1 := cell_grow hg pa_1 (fun g e => by (have e2 : Bpx = g := by simpa using e); omega)
          replace pb_0 := cell_grow hg pb_0 (fun g e => by (have e2 : Bpx = g := by simpa using e); omega)
          replace pb_1 := cell_grow hg pb_1 (fun g e => by (have e2 : Bpx = g := by simpa using e); omega)
          replace HOR := Lib.hid (own_grow hg HOR.out (fun g e => by (have e2 : Bpx = g := by simpa using e); omega))
          replace HOL := Lib.hid (own_grow hg HOL.out (fun g e => by (have e2 : Bpx = g := by simpa using e); omega))
          have HBh57 := Lib.hid (HBh56.out.grown hg (by have := HBh56.out.size; omega) (fun g e => by (have e2 : Bpx = g := by simpa using e); omega))
          have px_0 := nx0
          have px_f0 := nf0
          have px_1 := nx1
          have px_f1 := nf1
          clear hg nx0 nf0 nx1 nf1
          refine hK.out _ _ ?_ (fun hHeld => ?_)
          · exact ⟨x0_0, x0_1, x1_0, x1_1⟩
          clear hK K
          try simp only [List.getElem_toArray, List.getElem_cons_succ, List.getElem_cons_zero, Act.put, List.setIfInBounds_toArray, List.set_cons_zero, List.set_cons_succ]
          refine wpAnyH_done (by kernel_rfl) ?_ _
          refine NoPanic.normal ?_
          clear hHeld
          have hg9 := HRD.out v57 _ _ _ _ HOR.out HBh57.out
          have hi9 := HZD.out v57 _ _ _ _ HOL.out
          go_wp2_with fail
          refine (HCHG.out _ _ _ _ _ hg9 hi9).mono ?_
          rintro e va ⟨pv, lv, rfl, ho, hb⟩
          obtain ⟨p5, q5, rfl, hg5, _, _⟩ := ho.grid.slice
          obtain ⟨p6, q6, rfl, hi6, _, _⟩ := ho.ints.slice
          have sza : v57.heap.size ≤ va.heap.size := hb.size
          replace x2_0 := cell_below hb x2_0 (by omega)
          replace x2_1 := cell_below hb x2_1 (by omega)
          replace f2_0 := fro_below hb f2_0 (by omega)
          replace f2_1 := fro_below hb f2_1 (by omega)
          have HOS := Lib.hid ho
          have HBA := Lib.hid (HBh57.out.trans (hb.mono (by omega)))
          have HG5 := Lib.hid hg5
          have HI5 := Lib.hid hi6
          clear ho hb hg5 hi6 hg9 hi9
          go_wp2_with fail
          refine (HCK.out _ _ _ _ _ HG5.out HI5.out).mono ?_
          rintro e vb ⟨rfl, hb⟩
          have szb : va.heap.size ≤ vb.heap.size := hb.size
          replace x2_0 := cell_below hb x2_0 (by omega)
          replace x2_1 := cell_below hb x2_1 (by omega)
          replace f2_0 := fro_below hb f2_0 (by omega)
          replace f2_1 := fro_below hb f2_1 (by omega)
          have HOT := Lib.hid (HOS.out.below hb)
          have HBB := Lib.hid (HBA.out.trans (hb.mono (by omega)))
          clear hb
          go_wp2_with fail
          refine bodyPost_ret (v := .tuple #[.agg #[.slice p5 R.length q5, .slice p6 Z.length q6], .bool true]) (by simp [results, Try.results33, go_sem, x2_0, x2_1]) rfl ⟨_, _, rfl, ?_, ?_⟩
          · simp only [size_set]; exact ((HOT.out.set (by simp; omega) _).set (by simp; omega) _).mono (by omega) (by omega)
          · exact (HBB.out.setCell (by simp; omega) _).setCell (by simp; omega) _
        refine AllReadyH.cons rfl (fun K hK => ?_) AllReadyH.nil
        clear hHeld
        go_simp
        have px_0 : (v54.alloc (.cells #[.slice none 0 0, .slice none 0 0] 56)).cell? ⟨v54.heap.size, 0, none⟩ = some (.slice none 0 0) := cell_new _ _ _ rfl rfl
        have px_f0 : (v54.alloc (.cells #[.slice none 0 0, .slice none 0 0] 56)).frozen? ⟨v54.heap.size, 0, none⟩ = false := fro_new _ _ _ rfl
        have px_1 : (v54.alloc (.cells #[.slice none 0 0, .slice none 0 0] 56)).cell? ⟨v54.heap.size, 1, none⟩ = some (.slice none 0 0) := cell_new _ _ _ rfl rfl
        have px_f1 : (v54.alloc (.cells #[.slice none 0 0, .slice none 0 0] 56)).frozen? ⟨v54.heap.size, 1, none⟩ = false := fro_new _ _ _ rfl
        have hb := below_alloc v54 (.cells #[.slice none 0 0, .slice none 0 0] 56)
        have lt_px := size_alloc' v54 (.cells #[.slice none 0 0, .slice none 0 0] 56)
        generalize hwn : v54.alloc (.cells #[.slice none 0 0, .slice none 0 0] 56) = v55 at *
        clear hwn
        have sz55 : v54.heap.size ≤ v55.heap.size := hb.size
        replace f2_0 := fro_keep hb x2_0 f2_0
        replace f2_1 := fro_keep hb x2_1 f2_1
        replace pa_f0 := fro_keep hb pa_0 pa_f0
        replace pa_f1 := fro_keep hb pa_1 pa_f1
        replace pb_f0 := fro_keep hb pb_0 pb_f0
        replace pb_f1 := fro_keep hb pb_1 pb_f1
        replace x0_0 := cell_keep hb x0_0
        replace x0_1 := cell_keep hb x0_1
        replace x1_0 := cell_keep hb x1_0
        replace x1_1 := cell_keep hb x1_1
        replace x2_0 := cell_keep hb x2_0
        replace x2_1 := cell_keep hb x2_1
        replace pa_0 := cell_keep hb pa_0
        replace pa_1 := cell_keep hb pa_1
        replace pb_0 := cell_keep hb pb_0
        replace pb_1 := cell_keep hb pb_1
        replace HOR := Lib.hid (HOR.out.below hb)
        have HBh55 := Lib.hid (HBh54.out.trans (hb.mono (by have := HBh54.out.size; omega)))
        clear hb
        obtain ⟨Bpx, hBpx⟩ : ∃ Bpx : Nat, Bpx = v54.heap.size := ⟨_, rfl⟩
        rw [← hBpx] at px_0 px_f0 px_1 px_f1 ⊢
        have hBlpx : Bpx ≤ v54.heap.size ∧ v54.heap.size ≤ Bpx := by omega
        clear hBpx
        refine hK.out _ _ ?_ (fun hHeld => ?_)
        · exact ⟨x0_0, x0_1, x1_0, x1_1⟩
        clear hK K
        try simp only [List.getElem_toArray, List.getElem_cons_succ, List.getElem_cons_zero, Act.put, List.setIfInBounds_toArray, List.set_cons_zero, List.set_cons_succ]
        refine wpAnyH_ready (rs := [11]) (by kernel_rfl) (by simp) ?_
        refine AllReadyH.cons rfl (fun K hK => ?_) AllReadyH.nil
        clear hHeld
        go_simp
        refine (HCL.out Bpb v55 HBh55.out pb_0 pb_1 (by omega)).mono ?_
        rintro e v56 ⟨p4, q4, rfl, ho, hb⟩
        have sz56 : v55.heap.size ≤ v56.heap.size := hb.size
        replace f2_0 := fro_keep hb x2_0 f2_0
        replace f2_1 := fro_keep hb x2_1 f2_1
        replace pa_f0 := fro_keep hb pa_0 pa_f0
        replace pa_f1 := fro_keep hb pa_1 pa_f1
        replace pb_f0 := fro_keep hb pb_0 pb_f0
        replace pb_f1 := fro_keep hb pb_1 pb_f1
        replace px_f0 := fro_keep hb px_0 px_f0
        replace px_f1 := fro_keep hb px_1 px_f1
        replace x0_0 := cell_keep hb x0_0
        replace x0_1 := cell_keep hb x0_1
        replace x1_0 := cell_keep hb x1_0
        replace x1_1 := cell_keep hb x1_1
        replace x2_0 := cell_keep hb x2_0
        replace x2_1 := cell_keep hb x2_1
        replace pa_0 := cell_keep hb pa_0
        replace pa_1 := cell_keep hb pa_1
        replace pb_0 := cell_keep hb pb_0
        replace pb_1 := cell_keep hb pb_1
        replace px_0 := cell_keep hb px_0
        replace px_1 := cell_keep hb px_1
        replace HOR := Lib.hid (HOR.out.below hb)
        have HBh56 := Lib.hid (HBh55.out.trans (hb.mono (by have := HBh55.out.size; omega)))
        clear hb
        have HOL := Lib.hid ho
        clear ho
        refine hK.out _ _ ?_ (fun hHeld => ?_)
        · exact ⟨x0_0, x0_1, x1_0, x1_1⟩
        clear hK K
        try simp only [List.getElem_toArray, List.getElem_cons_succ, List.getElem_cons_zero, Act.put, List.setIfInBounds_toArray, List.set_cons_zero, List.set_cons_succ]
        refine wpAnyH_take (i := 12) (v := ?_) rfl (by kernel_rfl) (by kernel_rfl) (by kernel_rfl) (fun _ _ _ h => h) (Or.inl ⟨by rfl, ?_⟩) (by assumption) ?_
        rotate_left
        · intro w9 hSw; (try dsimp only at hSw); go_simp; try with_reducible rfl
        try simp only [List.getElem_toArray, List.getElem_cons_succ, List.getElem_cons_zero, Act.put, List.setIfInBounds_toArray, List.set_cons_zero, List.set_cons_succ]
        refine wpAnyH_ready (rs := [14]) (by kernel_rfl) (by simp) ?_
        refine AllReadyH.cons rfl (fun K hK => ?_) AllReadyH.nil
        clear hHeld
        go_simp
        have hg : v56.grownBy ((v56.setCell ⟨Bpx, 0, none⟩ (.slice p3 R.length q3)).setCell ⟨Bpx, 1, none⟩ (.slice p4 Z.length q4)) (some (Bpx)) := grown_trans (grown_set v56 (Bpx) 0 (.slice p3 R.length q3)) (grown_set _ (Bpx) 1 (.slice p4 Z.length q4))
        have nx0 : ((v56.setCell ⟨Bpx, 0, none⟩ (.slice p3 R.length q3)).setCell ⟨Bpx, 1, none⟩ (.slice p4 Z.length q4)).cell? ⟨Bpx, 0, none⟩ = some (.slice p3 R.length q3) := (World.cell?_setCell_other _ _ _ _ (by simp)).trans (World.cell?_setCell_same _ _ _ px_0)
        have nf0 : ((v56.setCell ⟨Bpx, 0, none⟩ (.slice p3 R.length q3)).setCell ⟨Bpx, 1, none⟩ (.slice p4 Z.length q4)).frozen? ⟨Bpx, 0, none⟩ = false := by simp only [World.frozen?_setCell]; exact px_f0
        have nx1 : ((v56.setCell ⟨Bpx, 0, none⟩ (.slice p3 R.length q3)).setCell ⟨Bpx, 1, none⟩ (.slice p4 Z.length q4)).cell? ⟨Bpx, 1, none⟩ = some (.slice p4 Z.length q4) := World.cell?_setCell_same _ _ _ ((World.cell?_setCell_other _ _ _ _ (by simp)).trans px_1)
        have nf1 : ((v56.setCell ⟨Bpx, 0, none⟩ (.slice p3 R.length q3)).setCell ⟨Bpx, 1, none⟩ (.slice p4 Z.length q4)).frozen? ⟨Bpx, 1, none⟩ = false := by simp only [World.frozen?_setCell]; exact px_f1
        clear px_0 px_f0 px_1 px_f1
        generalize hwn : ((v56.setCell ⟨Bpx, 0, none⟩ (.slice p3 R.length q3)).setCell ⟨Bpx, 1, none⟩ (.slice p4 Z.length q4)) = v57 at *
        clear hwn
        have sz57 : v56.heap.size ≤ v57.heap.size := hg.size
        replace f2_0 := fro_grow hg x2_0 f2_0 (fun g e => by (have e2 : Bpx = g := by simpa using e); omega)
        replace f2_1 := fro_grow hg x2_1 f2_1 (fun g e => by (have e2 : Bpx = g := by simpa using e); omega)
        replace pa_f0 := fro_grow hg pa_0 pa_f0 (fun g e => by (have e2 : Bpx = g := by simpa using e); omega)
        replace pa_f1 := fro_grow hg pa_1 pa_f1 (fun g e => by (have e2 : Bpx = g := by simpa using e); omega)
        replace pb_f0 := fro_grow hg pb_0 pb_f0 (fun g e => by (have e2 : Bpx = g := by simpa using e); omega)
        replace pb_f1 := fro_grow hg pb_1 pb_f1 (fun g e => by (have e2 : Bpx = g := by simpa using e); omega)
        replace x0_0 := cell_grow hg x0_0 (fun g e => by (have e2 : Bpx = g := by simpa using e); omega)
        replace x0_1 := cell_grow hg x0_1 (fun g e => by (have e2 : Bpx = g := by simpa using e); omega)
        replace x1_0 := cell_grow hg x1_0 (fun g e => by (have e2 : Bpx = g := by simpa using e); omega)
        replace x1_1 := cell_grow hg x1_1 (fun g e => by (have e2 : Bpx = g := by simpa using e); omega)
        replace x2_0 := cell_grow hg x2_0 (fun g e => by (have e2 : Bpx = g := by simpa using e); omega)
        replace x2_1 := cell_grow hg x2_1 (fun g e => by (have e2 : Bpx = g := by simpa using e); omega)
        replace pa_0 := cell_grow hg pa_0 (fun g e => by (have e2 : Bpx = g := by simpa using e); omega)
        replace pa_1 := cell_grow hg pa_1 (fun g e => by (have e2 : Bpx = g := by simpa using e); omega)
        replace pb_0 := cell_grow hg pb_0 (fun g e => by (have e2 : Bpx = g := by simpa using e); omega)
        replace pb_1 := cell_grow hg pb_1 (fun g e => by (have e2 : Bpx = g := by simpa using e); omega)
        replace HOR := Lib.hid (own_grow hg HOR.out (fun g e => by (have e2 : Bpx = g := by simpa using e); omega))
        replace HOL := Lib.hid (own_grow hg HOL.out (fun g e => by (have e2 : Bpx = g := by simpa using e); omega))
        have HBh57 := Lib.hid (HBh56.out.grown hg (by have := HBh56.out.size; omega) (fun g e => by (have e2 : Bpx = g := by simpa using e); omega))
        have px_0 := nx0
        have px_f0 := nf0
        have px_1 := nx1
        have px_f1 := nf1
        clear hg nx0 nf0 nx1 nf1
        refine hK.out _ _ ?_ (fun hHeld => ?_)
        · exact ⟨x0_0, x0_1, x1_0, x1_1⟩
        clear hK K
        try simp only [List.getElem_toArray, List.getElem_cons_succ, List.getElem_cons_zero, Act.put, List.setIfInBounds_toArray, List.set_cons_zero, List.set_cons_succ]
        refine wpAnyH_done (by kernel_rfl) ?_ _
        refine NoPanic.normal ?_
        clear hHeld
        have hg9 := HRD.out v57 _ _ _ _ HOR.out HBh57.out
        have hi9 := HZD.out v57 _ _ _ _ HOL.out
        go_wp2_with fail
        refine (HCHG.out _ _ _ _ _ hg9 hi9).mono ?_
        rintro e va ⟨pv, lv, rfl, ho, hb⟩
        obtain ⟨p5, q5, rfl, hg5, _, _⟩ := ho.grid.slice
        obtain ⟨p6, q6, rfl, hi6, _, _⟩ := ho.ints.slice
        have sza : v57.heap.size ≤ va.heap.size := hb.size
        replace x2_0 := cell_below hb x2_0 (by omega)
        replace x2_1 := cell_below hb x2_1 (by omega)
        replace f2_0 := fro_below hb f2_0 (by omega)
        replace f2_1 := fro_below hb f2_1 (by omega)
        have HOS := Lib.hid ho
        have HBA := Lib.hid (HBh57.out.trans (hb.mono (by omega)))
        have HG5 := Lib.hid hg5
        have HI5 := Lib.hid hi6
        clear ho hb hg5 hi6 hg9 hi9
        go_wp2_with fail
        refine (HCK.out _ _ _ _ _ HG5.out HI5.out).mono ?_
        rintro e vb ⟨rfl, hb⟩
        have szb : va.heap.size ≤ vb.heap.size := hb.size
        replace x2_0 := cell_below hb x2_0 (by omega)
        replace x2_1 := cell_below hb x2_1 (by omega)
        replace f2_0 := fro_below hb f2_0 (by omega)
        replace f2_1 := fro_below hb f2_1 (by omega)
        have HOT := Lib.hid (HOS.out.below hb)
        have HBB := Lib.hid (HBA.out.trans (hb.mono (by omega)))
        clear hb
        go_wp2_with fail
        refine bodyPost_ret (v := .tuple #[.agg #[.slice p5 R.length q5, .slice p6 Z.length q6], .bool true]) (by simp [results, Try.results33, go_sem, x2_0, x2_1]) rfl ⟨_, _, rfl, ?_, ?_⟩
        · simp only [size_set]; exact ((HOT.out.set (by simp; omega) _).set (by simp; omega) _).mono (by omega) (by omega)
        · exact (HBB.out.setCell (by simp; omega) _).setCell (by simp; omega) _
      refine AllReadyH.cons rfl (fun K hK => ?_) AllReadyH.nil
      clear hHeld
      go_simp
      have px_0 : (v53.alloc (.cells #[.slice none 0 0, .slice none 0 0] 56)).cell? ⟨v53.heap.size, 0, none⟩ = some (.slice none 0 0) := cell_new _ _ _ rfl rfl
      have px_f0 : (v53.alloc (.cells #[.slice none 0 0, .slice none 0 0] 56)).frozen? ⟨v53.heap.size, 0, none⟩ = false := fro_new _ _ _ rfl
      have px_1 : (v53.alloc (.cells #[.slice none 0 0, .slice none 0 0] 56)).cell? ⟨v53.heap.size, 1, none⟩ = some (.slice none 0 0) := cell_new _ _ _ rfl rfl
      have px_f1 : (v53.alloc (.cells #[.slice none 0 0, .slice none 0 0] 56)).frozen? ⟨v53.heap.size, 1, none⟩ = false := fro_new _ _ _ rfl
      have hb := below_alloc v53 (.cells #[.slice none 0 0, .slice none 0 0] 56)
      have lt_px := size_alloc' v53 (.cells #[.slice none 0 0, .slice none 0 0] 56)
      generalize hwn : v53.alloc (.cells #[.slice none 0 0, .slice none 0 0] 56) = v54 at *
      clear hwn
      have sz54 : v53.heap.size ≤ v54.heap.size := hb.size
      replace f2_0 := fro_keep hb x2_0 f2_0
      replace f2_1 := fro_keep hb x2_1 f2_1
      replace pa_f0 := fro_keep hb pa_0 pa_f0
      replace pa_f1 := fro_keep hb pa_1 pa_f1
      replace x0_0 := cell_keep hb x0_0
      replace x0_1 := cell_keep hb x0_1
      replace x1_0 := cell_keep hb x1_0
      replace x1_1 := cell_keep hb x1_1
      replace x2_0 := cell_keep hb x2_0
      replace x2_1 := cell_keep hb x2_1
      replace pa_0 := cell_keep hb pa_0
      replace pa_1 := cell_keep hb pa_1
      replace HOR := Lib.hid (HOR.out.below hb)
      have HBh54 := Lib.hid (HBh53.out.trans (hb.mono (by have := HBh53.out.size; omega)))
      clear hb
      obtain ⟨Bpx, hBpx⟩ : ∃ Bpx : Nat, Bpx = v53.heap.size := ⟨_, rfl⟩
      rw [← hBpx] at px_0 px_f0 px_1 px_f1 ⊢
      have hBlpx : Bpx ≤ v53.heap.size ∧ v53.heap.size ≤ Bpx := by omega
      clear hBpx
      refine hK.out _ _ ?_ (fun hHeld => ?_)
      · exact ⟨x0_0, x0_1, x1_0, x1_1⟩
      clear hK K
      try simp only [List.getElem_toArray, List.getElem_cons_succ, List.getElem_cons_zero, Act.put, List.setIfInBounds_toArray, List.set_cons_zero, List.set_cons_succ]
      refine wpAnyH_ready (rs := [10]) (by kernel_rfl) (by simp) ?_
      refine AllReadyH.cons rfl (fun K hK => ?_) AllReadyH.nil
      clear hHeld
      go_simp
      have pb_0 : (v54.alloc (.cells #[.slice a' zs.length c', .slice b' zs1.length d'] 22)).cell? ⟨v54.heap.size, 0, none⟩ = some (.slice a' zs.length c') := cell_new _ _ _ rfl rfl
      have pb_f0 : (v54.alloc (.cells #[.slice a' zs.length c', .slice b' zs1.length d'] 22)).frozen? ⟨v54.heap.size, 0, none⟩ = false := fro_new _ _ _ rfl
      have pb_1 : (v54.alloc (.cells #[.slice a' zs.length c', .slice b' zs1.length d'] 22)).cell? ⟨v54.heap.size, 1, none⟩ = some (.slice b' zs1.length d') := cell_new _ _ _ rfl rfl
      have pb_f1 : (v54.alloc (.cells #[.slice a' zs.length c', .slice b' zs1.length d'] 22)).frozen? ⟨v54.heap.size, 1, none⟩ = false := fro_new _ _ _ rfl
      have hb := below_alloc v54 (.cells #[.slice a' zs.length c', .slice b' zs1.length d'] 22)
      have lt_pb := size_alloc' v54 (.cells #[.slice a' zs.length c', .slice b' zs1.length d'] 22)
      generalize hwn : v54.alloc (.cells #[.slice a' zs.length c', .slice b' zs1.length d'] 22) = v55 at *
      clear hwn
      have sz55 : v54.heap.size ≤ v55.heap.size := hb.size
      replace f2_0 := fro_keep hb x2_0 f2_0
      replace f2_1 := fro_keep hb x2_1 f2_1
      replace pa_f0 := fro_keep hb pa_0 pa_f0
      replace pa_f1 := fro_keep hb pa_1 pa_f1
      replace px_f0 := fro_keep hb px_0 px_f0
      replace px_f1 := fro_keep hb px_1 px_f1
      replace x0_0 := cell_keep hb x0_0
      replace x0_1 := cell_keep hb x0_1
      replace x1_0 := cell_keep hb x1_0
      replace x1_1 := cell_keep hb x1_1
      replace x2_0 := cell_keep hb x2_0
      replace x2_1 := cell_keep hb x2_1
      replace pa_0 := cell_keep hb pa_0
      replace pa_1 := cell_keep hb pa_1
      replace px_0 := cell_keep hb px_0
      replace px_1 := cell_keep hb px_1
      replace HOR := Lib.hid (HOR.out.below hb)
      have HBh55 := Lib.hid (HBh54.out.trans (hb.mono (by have := HBh54.out.size; omega)))
      clear hb
      obtain ⟨Bpb, hBpb⟩ : ∃ Bpb : Nat, Bpb = v54.heap.size := ⟨_, rfl⟩
      rw [← hBpb] at pb_0 pb_f0 pb_1 pb_f1 ⊢
      have hBlpb : Bpb ≤ v54.heap.size ∧ v54.heap.size ≤ Bpb := by omega
      clear hBpb
      refine hK.out _ _ ?_ (fun hHeld => ?_)
      · exact ⟨x0_0, x0_1, x1_0, x1_1⟩
      clear hK K
      try simp only [List.getElem_toArray, List.getElem_cons_succ, List.getElem_cons_zero, Act.put, List.setIfInBounds_toArray, List.set_cons_zero, List.set_cons_succ]
      refine wpAnyH_ready (rs := [11]) (by kernel_rfl) (by simp) ?_
      refine AllReadyH.cons rfl (fun K hK => ?_) AllReadyH.nil
      clear hHeld
      go_simp
      refine (HCL.out Bpb v55 HBh55.out pb_0 pb_1 (by omega)).mono ?_
      rintro e v56 ⟨p4, q4, rfl, ho, hb⟩
      have sz56 : v55.heap.size ≤ v56.heap.size := hb.size
      replace f2_0 := fro_keep hb x2_0 f2_0
      replace f2_1 := fro_keep hb x2_1 f2_1
      replace pa_f0 := fro_keep hb pa_0 pa_f0
      replace pa_f1 := fro_keep hb pa_1 pa_f1
      replace px_f0 := fro_keep hb px_0 px_f0
      replace px_f1 := fro_keep hb px_1 px_f1
      replace pb_f0 := fro_keep hb pb_0 pb_f0
      replace pb_f1 := fro_keep hb pb_1 pb_f1
      replace x0_0 := cell_keep hb x0_0
      replace x0_1 := cell_keep hb x0_1
      replace x1_0 := cell_keep hb x1_0
      replace x1_1 := cell_keep hb x1_1
      replace x2_0 := cell_keep hb x2_0
      replace x2_1 := cell_keep hb x2_1
      replace pa_0 := cell_keep hb pa_0
      replace pa_1 := cell_keep hb pa_1
      replace px_0 := cell_keep hb px_0
      replace px_1 := cell_keep hb px_1
      replace pb_0 := cell_keep hb pb_0
      replace pb_1 := cell_keep hb pb_1
      replace HOR := Lib.hid (HOR.out.below hb)
      have HBh56 := Lib.hid (HBh55.out.trans (hb.mono (by have := HBh55.out.size; omega)))
      clear hb
      have HOL := Lib.hid ho
      clear ho
      refine hK.out _ _ ?_ (fun hHeld => ?_)
      · exact ⟨x0_0, x0_1, x1_0, x1_1⟩
      clear hK K
      try simp only [List.getElem_toArray, List.getElem_cons_succ, List.getElem_cons_zero, Act.put, List.setIfInBounds_toArray, List.set_cons_zero, List.set_cons_succ]
      refine wpAnyH_take (i := 12) (v := ?_) rfl (by kernel_rfl) (by kernel_rfl) (by kernel_rfl) (fun _ _ _ h => h) (Or.inl ⟨by rfl, ?_⟩) (by assumption) ?_
      rotate_left
      · intro w9 hSw; (try dsimp only at hSw); go_simp; try with_reducible rfl
      try simp only [List.getElem_toArray, List.getElem_cons_succ, List.getElem_cons_zero, Act.put, List.setIfInBounds_toArray, List.set_cons_zero, List.set_cons_succ]
      refine wpAnyH_ready (rs := [14]) (by kernel_rfl) (by simp) ?_
      refine AllReadyH.cons rfl (fun K hK => ?_) AllReadyH.nil
      clear hHeld
      go_simp
      have hg : v56.grownBy ((v56.setCell ⟨Bpx, 0, none⟩ (.slice p3 R.length q3)).setCell ⟨Bpx, 1, none⟩ (.slice p4 Z.length q4)) (some (Bpx)) := grown_trans (grown_set v56 (Bpx) 0 (.slice p3 R.length q3)) (grown_set _ (Bpx) 1 (.slice p4 Z.length q4))
      have nx0 : ((v56.setCell ⟨Bpx, 0, none⟩ (.slice p3 R.length q3)).setCell ⟨Bpx, 1, none⟩ (.slice p4 Z.length q4)).cell? ⟨Bpx, 0, none⟩ = some (.slice p3 R.length q3) := (World.cell?_setCell_other _ _ _ _ (by simp)).trans (World.cell?_setCell_same _ _ _ px_0)
      have nf0 : ((v56.setCell ⟨Bpx, 0, none⟩ (.slice p3 R.length q3)).setCell ⟨Bpx, 1, none⟩ (.slice p4 Z.length q4)).frozen? ⟨Bpx, 0, none⟩ = false := by simp only [World.frozen?_setCell]; exact px_f0
      have nx1 : ((v56.setCell ⟨Bpx, 0, none⟩ (.slice p3 R.length q3)).setCell ⟨Bpx, 1, none⟩ (.slice p4 Z.length q4)).cell? ⟨Bpx, 1, none⟩ = some (.slice p4 Z.length q4) := World.cell?_setCell_same _ _ _ ((World.cell?_setCell_other _ _ _ _ (by simp)).trans px_1)
      have nf1 : ((v56.setCell ⟨Bpx, 0, none⟩ (.slice p3 R.length q3)).setCell ⟨Bpx, 1, none⟩ (.slice p4 Z.length q4)).frozen? ⟨Bpx, 1, none⟩ = false := by simp only [World.frozen?_setCell]; exact px_f1
      clear px_0 px_f0 px_1 px_f1
      generalize hwn : ((v56.setCell ⟨Bpx, 0, none⟩ (.slice p3 R.length q3)).setCell ⟨Bpx, 1, none⟩ (.slice p4 Z.length q4)) = v57 at *
      clear hwn
      have sz57 : v56.heap.size ≤ v57.heap.size := hg.size
      replace f2_0 := fro_grow hg x2_0 f2_0 (fun g e => by (have e2 : Bpx = g := by simpa using e); omega)
      replace f2_1 := fro_grow hg x2_1 f2_1 (fun g e => by (have e2 : Bpx = g := by simpa using e); omega)
      replace pa_f0 := fro_grow hg pa_0 pa_f0 (fun g e => by (have e2 : Bpx = g := by simpa using e); omega)
      replace pa_f1 := fro_grow hg pa_1 pa_f1 (fun g e => by (have e2 : Bpx = g := by simpa using e); omega)
      replace pb_f0 := fro_grow hg pb_0 pb_f0 (fun g e => by (have e2 : Bpx = g := by simpa using e); omega)
      replace pb_f1 := fro_grow hg pb_1 pb_f1 (fun g e => by (have e2 : Bpx = g := by simpa using e); omega)
      replace x0_0 := cell_grow hg x0_0 (fun g e => by (have e2 : Bpx = g := by simpa using e); omega)
      replace x0_1 := cell_grow hg x0_1 (fun g e => by (have e2 : Bpx = g := by simpa using e); omega)
      replace x1_0 := cell_grow hg x1_0 (fun g e => by (have e2 : Bpx = g := by simpa using e); omega)
      replace x1_1 := cell_grow hg x1_1 (fun g e => by (have e2 : Bpx = g := by simpa using e); omega)
      replace x2_0 := cell_grow hg x2_0 (fun g e => by (have e2 : Bpx = g := by simpa using e); omega)
      replace x2_1 := cell_grow hg x2_1 (fun g e => by (have e2 : Bpx = g := by simpa using e); omega)
      replace pa_0 := cell_grow hg pa_0 (fun g e => by (have e2 : Bpx = g := by simpa using e); omega)
      replace pa_1 := cell_grow hg pa_1 (fun g e => by (have e2 : Bpx = g := by simpa using e); omega)
      replace pb_0 := cell_grow hg pb_0 (fun g e => by (have e2 : Bpx = g := by simpa using e); omega)
      replace pb_1 := cell_grow hg pb_1 (fun g e => by (have e2 : Bpx = g := by simpa using e); omega)
      replace HOR := Lib.hid (own_grow hg HOR.out (fun g e => by (have e2 : Bpx = g := by simpa using e); omega))
      replace HOL := Lib.hid (own_grow hg HOL.out (fun g e => by (have e2 : Bpx = g := by simpa using e); omega))
      have HBh57 := Lib.hid (HBh56.out.grown hg (by have := HBh56.out.size; omega) (fun g e => by (have e2 : Bpx = g := by simpa using e); omega))
      have px_0 := nx0
      have px_f0 := nf0
      have px_1 := nx1
      have px_f1 := nf1
      clear hg nx0 nf0 nx1 nf1
      refine hK.out _ _ ?_ (fun hHeld => ?_)
      · exact ⟨x0_0, x0_1, x1_0, x1_1⟩
      clear hK K
      try simp only [List.getElem_toArray, List.getElem_cons_succ, List.getElem_cons_zero, Act.put, List.setIfInBounds_toArray, List.set_cons_zero, List.set_cons_succ]
      refine wpAnyH_done (by kernel_rfl) ?_ _
      refine NoPanic.normal ?_
      clear hHeld
      have hg9 := HRD.out v57 _ _ _ _ HOR.out HBh57.out
      have hi9 := HZD.out v57 _ _ _ _ HOL.out
      go_wp2_with fail
      refine (HCHG.out _ _ _ _ _ hg9 hi9).mono ?_
      rintro e va ⟨pv, lv, rfl, ho, hb⟩
      obtain ⟨p5, q5, rfl, hg5, _, _⟩ := ho.grid.slice
      obtain ⟨p6, q6, rfl, hi6, _, _⟩ := ho.ints.slice
      have sza : v57.heap.size ≤ va.heap.size := hb.size
      replace x2_0 := cell_below hb x2_0 (by omega)
      replace x2_1 := cell_below hb x2_1 (by omega)
      replace f2_0 := fro_below hb f2_0 (by omega)
      replace f2_1 := fro_below hb f2_1 (by omega)
      have HOS := Lib.hid ho
      have HBA := Lib.hid (HBh57.out.trans (hb.mono (by omega)))
      have HG5 := Lib.hid hg5
      have HI5 := Lib.hid hi6
      clear ho hb hg5 hi6 hg9 hi9
      go_wp2_with fail
      refine (HCK.out _ _ _ _ _ HG5.out HI5.out).mono ?_
      rintro e vb ⟨rfl, hb⟩
      have szb : va.heap.size ≤ vb.heap.size := hb.size
      replace x2_0 := cell_below hb x2_0 (by omega)
      replace x2_1 := cell_below hb x2_1 (by omega)
      replace f2_0 := fro_below hb f2_0 (by omega)
      replace f2_1 := fro_below hb f2_1 (by omega)
      have HOT := Lib.hid (HOS.out.below hb)
      have HBB := Lib.hid (HBA.out.trans (hb.mono (by omega)))
      clear hb
      go_wp2_with fail
      refine bodyPost_ret (v := .tuple #[.agg #[.slice p5 R.length q5, .slice p6 Z.length q6], .bool true]) (by simp [results, Try.results33, go_sem, x2_0, x2_1]) rfl ⟨_, _, rfl, ?_, ?_⟩
      · simp only [size_set]; exact ((HOT.out.set (by simp; omega) _).set (by simp; omega) _).mono (by omega) (by omega)
      · exact (HBB.out.setCell (by simp; omega) _).setCell (by simp; omega) _
    refine AllReadyH.cons rfl (fun K hK => ?_) ?_
    · skip
      clear hHeld
      go_simp
      have pb_0 : (v52.alloc (.cells #[.slice a' zs.length c', .slice b' zs1.length d'] 22)).cell? ⟨v52.heap.size, 0, none⟩ = some (.slice a' zs.length c') := cell_new _ _ _ rfl rfl
      have pb_f0 : (v52.alloc (.cells #[.slice a' zs.length c', .slice b' zs1.length d'] 22)).frozen? ⟨v52.heap.size, 0, none⟩ = false := fro_new _ _ _ rfl
      have pb_1 : (v52.alloc (.cells #[.slice a' zs.length c', .slice b' zs1.length d'] 22)).cell? ⟨v52.heap.size, 1, none⟩ = some (.slice b' zs1.length d') := cell_new _ _ _ rfl rfl
      have pb_f1 : (v52.alloc (.cells #[.slice a' zs.length c', .slice b' zs1.length d'] 22)).frozen? ⟨v52.heap.size, 1, none⟩ = false := fro_new _ _ _ rfl
      have hb := below_alloc v52 (.cells #[.slice a' zs.length c', .slice b' zs1.length d'] 22)
      have lt_pb := size_alloc' v52 (.cells #[.slice a' zs.length c', .slice b' zs1.length d'] 22)
      generalize hwn : v52.alloc (.cells #[.slice a' zs.length c', .slice b' zs1.length d'] 22) = v53 at *
      clear hwn
      have sz53 : v52.heap.size ≤ v53.heap.size := hb.size
      replace f2_0 := fro_keep hb x2_0 f2_0
      replace f2_1 := fro_keep hb x2_1 f2_1
      replace pa_f0 := fro_keep hb pa_0 pa_f0
      replace pa_f1 := fro_keep hb pa_1 pa_f1
      replace x0_0 := cell_keep hb x0_0
      replace x0_1 := cell_keep hb x0_1
      replace x1_0 := cell_keep hb x1_0
      replace x1_1 := cell_keep hb x1_1
      replace x2_0 := cell_keep hb x2_0
      replace x2_1 := cell_keep hb x2_1
      replace pa_0 := cell_keep hb pa_0
      replace pa_1 := cell_keep hb pa_1
      have HBh53 := Lib.hid (HBh52.out.trans (hb.mono (by have := HBh52.out.size; omega)))
      clear hb
      obtain ⟨Bpb, hBpb⟩ : ∃ Bpb : Nat, Bpb = v52.heap.size := ⟨_, rfl⟩
      rw [← hBpb] at pb_0 pb_f0 pb_1 pb_f1 ⊢
      have hBlpb : Bpb ≤ v52.heap.size ∧ v52.heap.size ≤ Bpb := by omega
      clear hBpb
      refine hK.out _ _ ?_ (fun hHeld => ?_)
      · exact ⟨x0_0, x0_1, x1_0, x1_1⟩
      clear hK K
      try simp only [List.getElem_toArray, List.getElem_cons_succ, List.getElem_cons_zero, Act.put, List.setIfInBounds_toArray, List.set_cons_zero, List.set_cons_succ]
      refine wpAnyH_ready (rs := [5, 13]) (by kernel_rfl) (by simp) ?_
      refine AllReadyH.cons rfl (fun K hK => ?_) ?_
      · skip
        clear hHeld
        go_simp
        refine (HCR.out Bpa v53 HBh53.out pa_0 pa_1 (by omega)).mono ?_
        rintro e v54 ⟨p3, q3, rfl, ho, hb⟩
        have sz54 : v53.heap.size ≤ v54.heap.size := hb.size
        replace f2_0 := fro_keep hb x2_0 f2_0
        replace f2_1 := fro_keep hb x2_1 f2_1
        replace pa_f0 := fro_keep hb pa_0 pa_f0
        replace pa_f1 := fro_keep hb pa_1 pa_f1
        replace pb_f0 := fro_keep hb pb_0 pb_f0
        replace pb_f1 := fro_keep hb pb_1 pb_f1
        replace x0_0 := cell_keep hb x0_0
        replace x0_1 := cell_keep hb x0_1
        replace x1_0 := cell_keep hb x1_0
        replace x1_1 := cell_keep hb x1_1
        replace x2_0 := cell_keep hb x2_0
        replace x2_1 := cell_keep hb x2_1
        replace pa_0 := cell_keep hb pa_0
        replace pa_1 := cell_keep hb pa_1
        replace pb_0 := cell_keep hb pb_0
        replace pb_1 := cell_keep hb pb_1
        have HBh54 := Lib.hid (HBh53.out.trans (hb.mono (by have := HBh53.out.size; omega)))
        clear hb
        have HOR := Lib.hid ho
        clear ho
        refine hK.out _ _ ?_ (fun hHeld => ?_)
        · exact ⟨x0_0, x0_1, x1_0, x1_1⟩
        clear hK K
        try simp only [List.getElem_toArray, List.getElem_cons_succ, List.getElem_cons_zero, Act.put, List.setIfInBounds_toArray, List.set_cons_zero, List.set_cons_succ]
        refine wpAnyH_ready (rs := [11, 13]) (by kernel_rfl) (by simp) ?_
        refine AllReadyH.cons rfl (fun K hK => ?_) ?_
        · skip
          clear hHeld
          go_simp
          refine (HCL.out Bpb v54 HBh54.out pb_0 pb_1 (by omega)).mono ?_
          rintro e v55 ⟨p4, q4, rfl, ho, hb⟩
          have sz55 : v54.heap.size ≤ v55.heap.size := hb.size
          replace f2_0 := fro_keep hb x2_0 f2_0
          replace f2_1 := fro_keep hb x2_1 f2_1
          replace pa_f0 := fro_keep hb pa_0 pa_f0
          replace pa_f1 := fro_keep hb pa_1 pa_f1
          replace pb_f0 := fro_keep hb pb_0 pb_f0
          replace pb_f1 := fro_keep hb pb_1 pb_f1
          replace x0_0 := cell_keep hb x0_0
          replace x0_1 := cell_keep hb x0_1
          replace x1_0 := cell_keep hb x1_0
          replace x1_1 := cell_keep hb x1_1
          replace x2_0 := cell_keep hb x2_0
          replace x2_1 := cell_keep hb x2_1
          replace pa_0 := cell_keep hb pa_0
          replace pa_1 := cell_keep hb pa_1
          replace pb_0 := cell_keep hb pb_0
          replace pb_1 := cell_keep hb pb_1
          replace HOR := Lib.hid (HOR.out.below hb)
          have HBh55 := Lib.hid (HBh54.out.trans (hb.mono (by have := HBh54.out.size; omega)))
          clear hb
          have HOL := Lib.hid ho
          clear ho
          refine hK.out _ _ ?_ (fun hHeld => ?_)
          · exact ⟨x0_0, x0_1, x1_0, x1_1⟩
          clear hK K
          try simp only [List.getElem_toArray, List.getElem_cons_succ, List.getElem_cons_zero, Act.put, List.setIfInBounds_toArray, List.set_cons_zero, List.set_cons_succ]
          refine wpAnyH_take (i := 12) (v := ?_) rfl (by kernel_rfl) (by kernel_rfl) (by kernel_rfl) (fun _ _ _ h => h) (Or.inl ⟨by rfl, ?_⟩) (by assumption) ?_
          rotate_left
          · intro w9 hSw; (try dsimp only at hSw); go_simp; try with_reducible rfl
          try simp only [List.getElem_toArray, List.getElem_cons_succ, List.getElem_cons_zero, Act.put, List.setIfInBounds_toArray, List.set_cons_zero, List.set_cons_succ]
          refine wpAnyH_ready (rs := [13]) (by kernel_rfl) (by simp) ?_
          refine AllReadyH.cons rfl (fun K hK => ?_) AllReadyH.nil
          clear hHeld
          go_simp
          have px_0 : (v55.alloc (.cells #[.slice none 0 0, .slice none 0 0] 56)).cell? ⟨v55.heap.size, 0, none⟩ = some (.slice none 0 0) := cell_new _ _ _ rfl rfl
          have px_f0 : (v55.alloc (.cells #[.slice none 0 0, .slice none 0 0] 56)).frozen? ⟨v55.heap.size, 0, none⟩ = false := fro_new _ _ _ rfl
          have px_1 : (v55.alloc (.cells #[.slice none 0 0, .slice none 0 0] 56)).cell? ⟨v55.heap.size, 1, none⟩ = some (.slice none 0 0) := cell_new _ _ _ rfl rfl
          have px_f1 : (v55.alloc (.cells #[.slice none 0 0, .slice none 0 0] 56)).frozen? ⟨v55.heap.size, 1, none⟩ = false := fro_new _ _ _ rfl
          have hb := below_alloc v55 (.cells #[.slice none 0 0, .slice none 0 0] 56)
          have lt_px := size_alloc' v55 (.cells #[.slice none 0 0, .slice none 0 0] 56)
          generalize hwn : v55.alloc (.cells #[.slice none 0 0, .slice none 0 0] 56) = v56 at *
          clear hwn
          have sz56 : v55.heap.size ≤ v56.heap.size := hb.size
          replace f2_0 := fro_keep hb x2_0 f2_0
          replace f2_1 := fro_keep hb x2_1 f2_1
          replace pa_f0 := fro_keep hb pa_0 pa_f0
          replace pa_f1 := fro_keep hb pa_1 pa_f1
          replace pb_f0 := fro_keep hb pb_0 pb_f0
          replace pb_f1 := fro_keep hb pb_1 pb_f1
          replace x0_0 := cell_keep hb x0_0
          replace x0_1 := cell_keep hb x0_1
          replace x1_0 := cell_keep hb x1_0
          replace x1_1 := cell_keep hb x1_1
          replace x2_0 := cell_keep hb x2_0
          replace x2_1 := cell_keep hb x2_1
          replace pa_0 := cell_keep hb pa_0
          replace pa_1 := cell_keep hb pa_1
          replace pb_0 := cell_keep hb pb_0
          replace pb_1 := cell_keep hb pb_1
          replace HOR := Lib.hid (HOR.out.below hb)
          replace HOL := Lib.hid (HOL.out.below hb)
          have HBh56 := Lib.hid (HBh55.out.trans (hb.mono (by have := HBh55.out.size; omega)))
          clear hb
          obtain ⟨Bpx, hBpx⟩ : ∃ Bpx : Nat, Bpx = v55.heap.size := ⟨_, rfl⟩
          rw [← hBpx] at px_0 px_f0 px_1 px_f1 ⊢
          have hBlpx : Bpx ≤ v55.heap.size ∧ v55.heap.size ≤ Bpx := by omega
          clear hBpx
          refine hK.out _ _ ?_ (fun hHeld => ?_)
          · exact ⟨x0_0, x0_1, x1_0, x1_1⟩
          clear hK K
          try simp only [List.getElem_toArray, List.getElem_cons_succ, List.getElem_cons_zero, Act.put, List.setIfInBounds_toArray, List.set_cons_zero, List.set_cons_succ]
          refine wpAnyH_ready (rs := [14]) (by kernel_rfl) (by simp) ?_
          refine AllReadyH.cons rfl (fun K hK => ?_) AllReadyH.nil
          clear hHeld
          go_simp
          have hg : v56.grownBy ((v56.setCell ⟨Bpx, 0, none⟩ (.slice p3 R.length q3)).setCell ⟨Bpx, 1, none⟩ (.slice p4 Z.length q4)) (some (Bpx)) := grown_trans (grown_set v56 (Bpx) 0 (.slice p3 R.length q3)) (grown_set _ (Bpx) 1 (.slice p4 Z.length q4))
          have nx0 : ((v56.setCell ⟨Bpx, 0, none⟩ (.slice p3 R.length q3)).setCell ⟨Bpx, 1, none⟩ (.slice p4 Z.length q4)).cell? ⟨Bpx, 0, none⟩ = some (.slice p3 R.length q3) := (World.cell?_setCell_other _ _ _ _ (by simp)).trans (World.cell?_setCell_same _ _ _ px_0)
          have nf0 : ((v56.setCell ⟨Bpx, 0, none⟩ (.slice p3 R.length q3)).setCell ⟨Bpx, 1, none⟩ (.slice p4 Z.length q4)).frozen? ⟨Bpx, 0, none⟩ = false := by simp only [World.frozen?_setCell]; exact px_f0
          have nx1 : ((v56.setCell ⟨Bpx, 0, none⟩ (.slice p3 R.length q3)).setCell ⟨Bpx, 1, none⟩ (.slice p4 Z.length q4)).cell? ⟨Bpx, 1, none⟩ = some (.slice p4 Z.length q4) := World.cell?_setCell_same _ _ _ ((World.cell?_setCell_other _ _ _ _ (by simp)).trans px_1)
          have nf1 : ((v56.setCell ⟨Bpx, 0, none⟩ (.slice p3 R.length q3)).setCell ⟨Bpx, 1, none⟩ (.slice p4 Z.length q4)).frozen? ⟨Bpx, 1, none⟩ = false := by simp only [World.frozen?_setCell]; exact px_f1
          clear px_0 px_f0 px_1 px_f1
          generalize hwn : ((v56.setCell ⟨Bpx, 0, none⟩ (.slice p3 R.length q3)).setCell ⟨Bpx, 1, none⟩ (.slice p4 Z.length q4)) = v57 at *
          clear hwn
          have sz57 : v56.heap.size ≤ v57.heap.size := hg.size
          replace f2_0 := fro_grow hg x2_0 f2_0 (fun g e => by (have e2 : Bpx = g := by simpa using e); omega)
          replace f2_1 := fro_grow hg x2_1 f2_1 (fun g e => by (have e2 : Bpx = g := by simpa using e); omega)
          replace pa_f0 := fro_grow hg pa_0 pa_f0 (fun g e => by (have e2 : Bpx = g := by simpa using e); omega)
          replace pa_f1 := fro_grow hg pa_1 pa_f1 (fun g e => by (have e2 : Bpx = g := by simpa using e); omega)
          replace pb_f0 := fro_grow hg pb_0 pb_f0 (fun g e => by (have e2 : Bpx = g := by simpa using e); omega)
          replace pb_f1 := fro_grow hg pb_1 pb_f1 (fun g e => by (have e2 : Bpx = g := by simpa using e); omega)
          replace x0_0 := cell_grow hg x0_0 (fun g e => by (have e2 : Bpx = g := by simpa using e); omega)
          replace x0_1 := cell_grow hg x0_1 (fun g e => by (have e2 : Bpx = g := by simpa using e); omega)
          replace x1_0 := cell_grow hg x1_0 (fun g e => by (have e2 : Bpx = g := by simpa using e); omega)
          replace x1_1 := cell_grow hg x1_1 (fun g e => by (have e2 : Bpx = g := by simpa using e); omega)
          replace x2_0 := cell_grow hg x2_0 (fun g e => by (have e2 : Bpx = g := by simpa using e); omega)
          replace x2_1 := cell_grow hg x2_1 (fun g e => by (have e2 : Bpx = g := by simpa using e); omega)
          replace pa_0 := cell_grow hg pa_0 (fun g e => by (have e2 : Bpx = g := by simpa using e); omega)
          replace pa_1 := cell_grow hg pa_1 (fun g e => by (have e2 : Bpx = g := by simpa using e); omega)
          replace pb_0 := cell_grow hg pb_0 (fun g e => by (have e2 : Bpx = g := by simpa using e); omega)
          replace pb_1 := cell_grow hg pb_1 (fun g e => by (have e2 : Bpx = g := by simpa using e); omega)
          replace HOR := Lib.hid (own_grow hg HOR.out (fun g e => by (have e2 : Bpx = g := by simpa using e); omega))
          replace HOL := Lib.hid (own_grow hg HOL.out (fun g e => by (have e2 : Bpx = g := by simpa using e); omega))
          have HBh57 := Lib.hid (HBh56.out.grown hg (by have := HBh56.out.size; omega) (fun g e => by (have e2 : Bpx = g := by simpa using e); omega))
          have px_0 := nx0
          have px_f0 := nf0
          have px_1 := nx1
          have px_f1 := nf1
          clear hg nx0 nf0 nx1 nf1
          refine hK.out _ _ ?_ (fun hHeld => ?_)
          · exact ⟨x0_0, x0_1, x1_0, x1_1⟩
          clear hK K
          try simp only [List.getElem_toArray, List.getElem_cons_succ, List.getElem_cons_zero, Act.put, List.setIfInBounds_toArray, List.set_cons_zero, List.set_cons_succ]
          refine wpAnyH_done (by kernel_rfl) ?_ _
          refine NoPanic.normal ?_
          clear hHeld
          have hg9 := HRD.out v57 _ _ _ _ HOR.out HBh57.out
          have hi9 := HZD.out v57 _ _ _ _ HOL.out
          go_wp2_with fail
          refine (HCHG.out _ _ _ _ _ hg9 hi9).mono ?_
          rintro e va ⟨pv, lv, rfl, ho, hb⟩
          obtain ⟨p5, q5, rfl, hg5, _, _⟩ := ho.grid.slice
          obtain ⟨p6, q6, rfl, hi6, _, _⟩ := ho.ints.slice
          have sza : v57.heap.size ≤ va.heap.size := hb.size
          replace x2_0 := cell_below hb x2_0 (by omega)
          replace x2_1 := cell_below hb x2_1 (by omega)
          replace f2_0 := fro_below hb f2_0 (by omega)
          replace f2_1 := fro_below hb f2_1 (by omega)
          have HOS := Lib.hid ho
          have HBA := Lib.hid (HBh57.out.trans (hb.mono (by omega)))
          have HG5 := Lib.hid hg5
          have HI5 := Lib.hid hi6
          clear ho hb hg5 hi6 hg9 hi9
          go_wp2_with fail
          refine (HCK.out _ _ _ _ _ HG5.out HI5.out).mono ?_
          rintro e vb ⟨rfl, hb⟩
          have szb : va.heap.size ≤ vb.heap.size := hb.size
          replace x2_0 := cell_below hb x2_0 (by omega)
          replace x2_1 := cell_below hb x2_1 (by omega)
          replace f2_0 := fro_below hb f2_0 (by omega)
          replace f2_1 := fro_below hb f2_1 (by omega)
          have HOT := Lib.hid (HOS.out.below hb)
          have HBB := Lib.hid (HBA.out.trans (hb.mono (by omega)))
          clear hb
          go_wp2_with fail
          refine bodyPost_ret (v := .tuple #[.agg #[.slice p5 R.length q5, .slice p6 Z.length q6], .bool true]) (by simp [results, Try.results33, go_sem, x2_0, x2_1]) rfl ⟨_, _, rfl, ?_, ?_⟩
          · simp only [size_set]; exact ((HOT.out.set (by simp; omega) _).set (by simp; omega) _).mono (by omega) (by omega)
          · exact (HBB.out.setCell (by simp; omega) _).setCell (by simp; omega) _
        refine AllReadyH.cons rfl (fun K hK => ?_) AllReadyH.nil
        clear hHeld
        go_simp
        have px_0 : (v54.alloc (.cells #[.slice none 0 0, .slice none 0 0] 56)).cell? ⟨v54.heap.size, 0, none⟩ = some (.slice none 0 0) := cell_new _ _ _ rfl rfl
        have px_f0 : (v54.alloc (.cells #[.slice none 0 0, .slice none 0 0] 56)).frozen? ⟨v54.heap.size, 0, none⟩ = false := fro_new _ _ _ rfl
        have px_1 : (v54.alloc (.cells #[.slice none 0 0, .slice none 0 0] 56)).cell? ⟨v54.heap.size, 1, none⟩ = some (.slice none 0 0) := cell_new _ _ _ rfl rfl
        have px_f1 : (v54.alloc (.cells #[.slice none 0 0, .slice none 0 0] 56)).frozen? ⟨v54.heap.size, 1, none⟩ = false := fro_new _ _ _ rfl
        have hb := below_alloc v54 (.cells #[.slice none 0 0, .slice none 0 0] 56)
        have lt_px := size_alloc' v54 (.cells #[.slice none 0 0, .slice none 0 0] 56)
        generalize hwn : v54.alloc (.cells #[.slice none 0 0, .slice none 0 0] 56) = v55 at *
        clear hwn
        have sz55 : v54.heap.size ≤ v55.heap.size := hb.size
        replace f2_0 := fro_keep hb x2_0 f2_0
        replace f2_1 := fro_keep hb x2_1 f2_1
        replace pa_f0 := fro_keep hb pa_0 pa_f0
        replace pa_f1 := fro_keep hb pa_1 pa_f1
        replace pb_f0 := fro_keep hb pb_0 pb_f0
        replace pb_f1 := fro_keep hb pb_1 pb_f1
        replace x0_0 := cell_keep hb x0_0
        replace x0_1 := cell_keep hb x0_1
        replace x1_0 := cell_keep hb x1_0
        replace x1_1 := cell_keep hb x1_1
        replace x2_0 := cell_keep hb x2_0
        replace x2_1 := cell_keep hb x2_1
        replace pa_0 := cell_keep hb pa_0
        replace pa_1 := cell_keep hb pa_1
        replace pb_0 := cell_keep hb pb_0
        replace pb_1 := cell_keep hb pb_1
        replace HOR := Lib.hid (HOR.out.below hb)
        have HBh55 := Lib.hid (HBh54.out.trans (hb.mono (by have := HBh54.out.size; omega)))
        clear hb
        obtain ⟨Bpx, hBpx⟩ : ∃ Bpx : Nat, Bpx = v54.heap.size := ⟨_, rfl⟩
        rw [← hBpx] at px_0 px_f0 px_1 px_f1 ⊢
        have hBlpx : Bpx ≤ v54.heap.size ∧ v54.heap.size ≤ Bpx := by omega
        clear hBpx
        refine hK.out _ _ ?_ (fun hHeld => ?_)
        · exact ⟨x0_0, x0_1, x1_0, x1_1⟩
        clear hK K
        try simp only [List.getElem_toArray, List.getElem_cons_succ, List.getElem_cons_zero, Act.put, List.setIfInBounds_toArray, List.set_cons_zero, List.set_cons_succ]
        refine wpAnyH_ready (rs := [11]) (by kernel_rfl) (by simp) ?_
        refine AllReadyH.cons rfl (fun K hK => ?_) AllReadyH.nil
        clear hHeld
        go_simp
        refine (HCL.out Bpb v55 HBh55.out pb_0 pb_1 (by omega)).mono ?_
        rintro e v56 ⟨p4, q4, rfl, ho, hb⟩
        have sz56 : v55.heap.size ≤ v56.heap.size := hb.size
        replace f2_0 := fro_keep hb x2_0 f2_0
        replace f2_1 := fro_keep hb x2_1 f2_1
        replace pa_f0 := fro_keep hb pa_0 pa_f0
        replace pa_f1 := fro_keep hb pa_1 pa_f1
        replace pb_f0 := fro_keep hb pb_0 pb_f0
        replace pb_f1 := fro_keep hb pb_1 pb_f1
        replace px_f0 := fro_keep hb px_0 px_f0
        replace px_f1 := fro_keep hb px_1 px_f1
        replace x0_0 := cell_keep hb x0_0
        replace x0_1 := cell_keep hb x0_1
        replace x1_0 := cell_keep hb x1_0
        replace x1_1 := cell_keep hb x1_1
        replace x2_0 := cell_keep hb x2_0
        replace x2_1 := cell_keep hb x2_1
        replace pa_0 := cell_keep hb pa_0
        replace pa_1 := cell_keep hb pa_1
        replace pb_0 := cell_keep hb pb_0
        replace pb_1 := cell_keep hb pb_1
        replace px_0 := cell_keep hb px_0
        replace px_1 := cell_keep hb px_1
        replace HOR := Lib.hid (HOR.out.below hb)
        have HBh56 := Lib.hid (HBh55.out.trans (hb.mono (by have := HBh55.out.size; omega)))
        clear hb
        have HOL := Lib.hid ho
        clear ho
        refine hK.out _ _ ?_ (fun hHeld => ?_)
        · exact ⟨x0_0, x0_1, x1_0, x1_1⟩
        clear hK K
        try simp only [List.getElem_toArray, List.getElem_cons_succ, List.getElem_cons_zero, Act.put, List.setIfInBounds_toArray, List.set_cons_zero, List.set_cons_succ]
        refine wpAnyH_take (i := 12) (v := ?_) rfl (by kernel_rfl) (by kernel_rfl) (by kernel_rfl) (fun _ _ _ h => h) (Or.inl ⟨by rfl, ?_⟩) (by assumption) ?_
        rotate_left
        · intro w9 hSw; (try dsimp only at hSw); go_simp; try with_reducible rfl
        try simp only [List.getElem_toArray, List.getElem_cons_succ, List.getElem_cons_zero, Act.put, List.setIfInBounds_toArray, List.set_cons_zero, List.set_cons_succ]
        refine wpAnyH_ready (rs := [14]) (by kernel_rfl) (by simp) ?_
        refine AllReadyH.cons rfl (fun K hK => ?_) AllReadyH.nil
        clear hHeld
        go_simp
        have hg : v56.grownBy ((v56.setCell ⟨Bpx, 0, none⟩ (.slice p3 R.length q3)).setCell ⟨Bpx, 1, none⟩ (.slice p4 Z.length q4)) (some (Bpx)) := grown_trans (grown_set v56 (Bpx) 0 (.slice p3 R.length q3)) (grown_set _ (Bpx) 1 (.slice p4 Z.length q4))
        have nx0 : ((v56.setCell ⟨Bpx, 0, none⟩ (.slice p3 R.length q3)).setCell ⟨Bpx, 1, none⟩ (.slice p4 Z.length q4)).cell? ⟨Bpx, 0, none⟩ = some (.slice p3 R.length q3) := (World.cell?_setCell_other _ _ _ _ (by simp)).trans (World.cell?_setCell_same _ _ _ px_0)
        have nf0 : ((v56.setCell ⟨Bpx, 0, none⟩ (.slice p3 R.length q3)).setCell ⟨Bpx, 1, none⟩ (.slice p4 Z.length q4)).frozen? ⟨Bpx, 0, none⟩ = false := by simp only [World.frozen?_setCell]; exact px_f0
        have nx1 : ((v56.setCell ⟨Bpx, 0, none⟩ (.slice p3 R.length q3)).setCell ⟨Bpx, 1, none⟩ (.slice p4 Z.length q4)).cell? ⟨Bpx, 1, none⟩ = some (.slice p4 Z.length q4) := World.cell?_setCell_same _ _ _ ((World.cell?_setCell_other _ _ _ _ (by simp)).trans px_1)
        have nf1 : ((v56.setCell ⟨Bpx, 0, none⟩ (.slice p3 R.length q3)).setCell ⟨Bpx, 1, none⟩ (.slice p4 Z.length q4)).frozen? ⟨Bpx, 1, none⟩ = false := by simp only [World.frozen?_setCell]; exact px_f1
        clear px_0 px_f0 px_1 px_f1
        generalize hwn : ((v56.setCell ⟨Bpx, 0, none⟩ (.slice p3 R.length q3)).setCell ⟨Bpx, 1, none⟩ (.slice p4 Z.length q4)) = v57 at *
        clear hwn
        have sz57 : v56.heap.size ≤ v57.heap.size := hg.size
        replace f2_0 := fro_grow hg x2_0 f2_0 (fun g e => by (have e2 : Bpx = g := by simpa using e); omega)
        replace f2_1 := fro_grow hg x2_1 f2_1 (fun g e => by (have e2 : Bpx = g := by simpa using e); omega)
        replace pa_f0 := fro_grow hg pa_0 pa_f0 (fun g e => by (have e2 : Bpx = g := by simpa using e); omega)
        replace pa_f1 := fro_grow hg pa_1 pa_f1 (fun g e => by (have e2 : Bpx = g := by simpa using e); omega)
        replace pb_f0 := fro_grow hg pb_0 pb_f0 (fun g e => by (have e2 : Bpx = g := by simpa using e); omega)
        replace pb_f1 := fro_grow hg pb_1 pb_f1 (fun g e => by (have e2 : Bpx = g := by simpa using e); omega)
        replace x0_0 := cell_grow hg x0_0 (fun g e => by (have e2 : Bpx = g := by simpa using e); omega)
        replace x0_1 := cell_grow hg x0_1 (fun g e => by (have e2 : Bpx = g := by simpa using e); omega)
        replace x1_0 := cell_grow hg x1_0 (fun g e => by (have e2 : Bpx = g := by simpa using e); omega)
        replace x1_1 := cell_grow hg x1_1 (fun g e => by (have e2 : Bpx = g := by simpa using e); omega)
        replace x2_0 := cell_grow hg x2_0 (fun g e => by (have e2 : Bpx = g := by simpa using e); omega)
        replace x2_1 := cell_grow hg x2_1 (fun g e => by (have e2 : Bpx = g := by simpa using e); omega)
        replace pa_0 := cell_grow hg pa_0 (fun g e => by (have e2 : Bpx = g := by simpa using e); omega)
        replace pa_1 := cell_grow hg pa_1 (fun g e => by (have e2 : Bpx = g := by simpa using e); omega)
        replace pb_0 := cell_grow hg pb_0 (fun g e => by (have e2 : Bpx = g := by simpa using e); omega)
        replace pb_1 := cell_grow hg pb_1 (fun g e => by (have e2 : Bpx = g := by simpa using e); omega)
        replace HOR := Lib.hid (own_grow hg HOR.out (fun g e => by (have e2 : Bpx = g := by simpa using e); omega))
        replace HOL := Lib.hid (own_grow hg HOL.out (fun g e => by (have e2 : Bpx = g := by simpa using e); omega))
        have HBh57 := Lib.hid (HBh56.out.grown hg (by have := HBh56.out.size; omega) (fun g e => by (have e2 : Bpx = g := by simpa using e); omega))
        have px_0 := nx0
        have px_f0 := nf0
        have px_1 := nx1
        have px_f1 := nf1
        clear hg nx0 nf0 nx1 nf1
        refine hK.out _ _ ?_ (fun hHeld => ?_)
        · exact ⟨x0_0, x0_1, x1_0, x1_1⟩
        clear hK K
        try simp only [List.getElem_toArray, List.getElem_cons_succ, List.getElem_cons_zero, Act.put, List.setIfInBounds_toArray, List.set_cons_zero, List.set_cons_succ]
        refine wpAnyH_done (by kernel_rfl) ?_ _
        refine NoPanic.normal ?_
        clear hHeld
        have hg9 := HRD.out v57 _ _ _ _ HOR.out HBh57.out
        have hi9 := HZD.out v57 _ _ _ _ HOL.out
        go_wp2_with fail
        refine (HCHG.out _ _ _ _ _ hg9 hi9).mono ?_
        rintro e va ⟨pv, lv, rfl, ho, hb⟩
        obtain ⟨p5, q5, rfl, hg5, _, _⟩ := ho.grid.slice
        obtain ⟨p6, q6, rfl, hi6, _, _⟩ := ho.ints.slice
        have sza : v57.heap.size ≤ va.heap.size := hb.size
        replace x2_0 := cell_below hb x2_0 (by omega)
        replace x2_1 := cell_below hb x2_1 (by omega)
        replace f2_0 := fro_below hb f2_0 (by omega)
        replace f2_1 := fro_below hb f2_1 (by omega)
        have HOS := Lib.hid ho
        have HBA := Lib.hid (HBh57.out.trans (hb.mono (by omega)))
        have HG5 := Lib.hid hg5
        have HI5 := Lib.hid hi6
        clear ho hb hg5 hi6 hg9 hi9
        go_wp2_with fail
        refine (HCK.out _ _ _ _ _ HG5.out HI5.out).mono ?_
        rintro e vb ⟨rfl, hb⟩
        have szb : va.heap.size ≤ vb.heap.size := hb.size
        replace x2_0 := cell_below hb x2_0 (by omega)
        replace x2_1 := cell_below hb x2_1 (by omega)
        replace f2_0 := fro_below hb f2_0 (by omega)
        replace f2_1 := fro_below hb f2_1 (by omega)
        have HOT := Lib.hid (HOS.out.below hb)
        have HBB := Lib.hid (HBA.out.trans (hb.mono (by omega)))
        clear hb
        go_wp2_with fail
        refine bodyPost_ret (v := .tuple #[.agg #[.slice p5 R.length q5, .slice p6 Z.length q6], .bool true]) (by simp [results, Try.results33, go_sem, x2_0, x2_1]) rfl ⟨_, _, rfl, ?_, ?_⟩
        · simp only [size_set]; exact ((HOT.out.set (by simp; omega) _).set (by simp; omega) _).mono (by omega) (by omega)
        · exact (HBB.out.setCell (by simp; omega) _).setCell (by simp; omega) _
      refine AllReadyH.cons rfl (fun K hK => ?_) AllReadyH.nil
      clear hHeld
      go_simp
      have px_0 : (v53.alloc (.cells #[.slice none 0 0, .slice none 0 0] 56)).cell? ⟨v53.heap.size, 0, none⟩ = some (.slice none 0 0) := cell_new _ _ _ rfl rfl
      have px_f0 : (v53.alloc (.cells #[.slice none 0 0, .slice none 0 0] 56)).frozen? ⟨v53.heap.size, 0, none⟩ = false := fro_new _ _ _ rfl
      have px_1 : (v53.alloc (.cells #[.slice none 0 0, .slice none 0 0] 56)).cell? ⟨v53.heap.size, 1, none⟩ = some (.slice none 0 0) := cell_new _ _ _ rfl rfl
      have px_f1 : (v53.alloc (.cells #[.slice none 0 0, .slice none 0 0] 56)).frozen? ⟨v53.heap.size, 1, none⟩ = false := fro_new _ _ _ rfl
      have hb := below_alloc v53 (.cells #[.slice none 0 0, .slice none 0 0] 56)
      have lt_px := size_alloc' v53 (.cells #[.slice none 0 0, .slice none 0 0] 56)
      generalize hwn : v53.alloc (.cells #[.slice none 0 0, .slice none 0 0] 56) = v54 at *
      clear hwn
      have sz54 : v53.heap.size ≤ v54.heap.size := hb.size
      replace f2_0 := fro_keep hb x2_0 f2_0
      replace f2_1 := fro_keep hb x2_1 f2_1
      replace pa_f0 := fro_keep hb pa_0 pa_f0
      replace pa_f1 := fro_keep hb pa_1 pa_f1
      replace pb_f0 := fro_keep hb pb_0 pb_f0
      replace pb_f1 := fro_keep hb pb_1 pb_f1
      replace x0_0 := cell_keep hb x0_0
      replace x0_1 := cell_keep hb x0_1
      replace x1_0 := cell_keep hb x1_0
      replace x1_1 := cell_keep hb x1_1
      replace x2_0 := cell_keep hb x2_0
      replace x2_1 := cell_keep hb x2_1
      replace pa_0 := cell_keep hb pa_0
      replace pa_1 := cell_keep hb pa_1
      replace pb_0 := cell_keep hb pb_0
      replace pb_1 := cell_keep hb pb_1
      have HBh54 := Lib.hid (HBh53.out.trans (hb.mono (by have := HBh53.out.size; omega)))
      clear hb
      obtain ⟨Bpx, hBpx⟩ : ∃ Bpx : Nat, Bpx = v53.heap.size := ⟨_, rfl⟩
      rw [← hBpx] at px_0 px_f0 px_1 px_f1 ⊢
      have hBlpx : Bpx ≤ v53.heap.size ∧ v53.heap.size ≤ Bpx := by omega
      clear hBpx
      refine hK.out _ _ ?_ (fun hHeld => ?_)
      · exact ⟨x0_0, x0_1, x1_0, x1_1⟩
      clear hK K
      try simp only [List.getElem_toArray, List.getElem_cons_succ, List.getElem_cons_zero, Act.put, List.setIfInBounds_toArray, List.set_cons_zero, List.set_cons_succ]
      refine wpAnyH_ready (rs := [5]) (by kernel_rfl) (by simp) ?_
      refine AllReadyH.cons rfl (fun K hK => ?_) AllReadyH.nil
      clear hHeld
      go_simp
      refine (HCR.out Bpa v54 HBh54.out pa_0 pa_1 (by omega)).mono ?_
      rintro e v55 ⟨p3, q3, rfl, ho, hb⟩
      have sz55 : v54.heap.size ≤ v55.heap.size := hb.size
      replace f2_0 := fro_keep hb x2_0 f2_0
      replace f2_1 := fro_keep hb x2_1 f2_1
      replace pa_f0 := fro_keep hb pa_0 pa_f0
      replace pa_f1 := fro_keep hb pa_1 pa_f1
      replace pb_f0 := fro_keep hb pb_0 pb_f0
      replace pb_f1 := fro_keep hb pb_1 pb_f1
      replace px_f0 := fro_keep hb px_0 px_f0
      replace px_f1 := fro_keep hb px_1 px_f1
      replace x0_0 := cell_keep hb x0_0
      replace x0_1 := cell_keep hb x0_1
      replace x1_0 := cell_keep hb x1_0
      replace x1_1 := cell_keep hb x1_1
      replace x2_0 := cell_keep hb x2_0
      replace x2_1 := cell_keep hb x2_1
      replace pa_0 := cell_keep hb pa_0
      replace pa_1 := cell_keep hb pa_1
      replace pb_0 := cell_keep hb pb_0
      replace pb_1 := cell_keep hb pb_1
      replace px_0 := cell_keep hb px_0
      replace px_1 := cell_keep hb px_1
      have HBh55 := Lib.hid (HBh54.out.trans (hb.mono (by have := HBh54.out.size; omega)))
      clear hb
      have HOR := Lib.hid ho
      clear ho
      refine hK.out _ _ ?_ (fun hHeld => ?_)
      · exact ⟨x0_0, x0_1, x1_0, x1_1⟩
      clear hK K
      try simp only [List.getElem_toArray, List.getElem_cons_succ, List.getElem_cons_zero, Act.put, List.setIfInBounds_toArray, List.set_cons_zero, List.set_cons_succ]
      refine wpAnyH_ready (rs := [11]) (by kernel_rfl) (by simp) ?_
      refine AllReadyH.cons rfl (fun K hK => ?_) AllReadyH.nil
      clear hHeld
      go_simp
      refine (HCL.out Bpb v55 HBh55.out pb_0 pb_1 (by omega)).mono ?_
      rintro e v56 ⟨p4, q4, rfl, ho, hb⟩
      have sz56 : v55.heap.size ≤ v56.heap.size := hb.size
      replace f2_0 := fro_keep hb x2_0 f2_0
      replace f2_1 := fro_keep hb x2_1 f2_1
      replace pa_f0 := fro_keep hb pa_0 pa_f0
      replace pa_f1 := fro_keep hb pa_1 pa_f1
      replace pb_f0 := fro_keep hb pb_0 pb_f0
      replace pb_f1 := fro_keep hb pb_1 pb_f1
      replace px_f0 := fro_keep hb px_0 px_f0
      replace px_f1 := fro_keep hb px_1 px_f1
      replace x0_0 := cell_keep hb x0_0
      replace x0_1 := cell_keep hb x0_1
      replace x1_0 := cell_keep hb x1_0
      replace x1_1 := cell_keep hb x1_1
      replace x2_0 := cell_keep hb x2_0
      replace x2_1 := cell_keep hb x2_1
      replace pa_0 := cell_keep hb pa_0
      replace pa_1 := cell_keep hb pa_1
      replace pb_0 := cell_keep hb pb_0
      replace pb_1 := cell_keep hb pb_1
      replace px_0 := cell_keep hb px_0
      replace px_1 := cell_keep hb px_1
      replace HOR := Lib.hid (HOR.out.below hb)
      have HBh56 := Lib.hid (HBh55.out.trans (hb.mono (by have := HBh55.out.size; omega)))
      clear hb
      have HOL := Lib.hid ho
      clear ho
      refine hK.out _ _ ?_ (fun hHeld => ?_)
      · exact ⟨x0_0, x0_1, x1_0, x1_1⟩
      clear hK K
      try simp only [List.getElem_toArray, List.getElem_cons_succ, List.getElem_cons_zero, Act.put, List.setIfInBounds_toArray, List.set_cons_zero, List.set_cons_succ]
      refine wpAnyH_take (i := 12) (v := ?_) rfl (by kernel_rfl) (by kernel_rfl) (by kernel_rfl) (fun _ _ _ h => h) (Or.inl ⟨by rfl, ?_⟩) (by assumption) ?_
      rotate_left
      · intro w9 hSw; (try dsimp only at hSw); go_simp; try with_reducible rfl
      try simp only [List.getElem_toArray, List.getElem_cons_succ, List.getElem_cons_zero, Act.put, List.setIfInBounds_toArray, List.set_cons_zero, List.set_cons_succ]
      refine wpAnyH_ready (rs := [14]) (by kernel_rfl) (by simp) ?_
      refine AllReadyH.cons rfl (fun K hK => ?_) AllReadyH.nil
      clear hHeld
      go_simp
      have hg : v56.grownBy ((v56.setCell ⟨Bpx, 0, none⟩ (.slice p3 R.length q3)).setCell ⟨Bpx, 1, none⟩ (.slice p4 Z.length q4)) (some (Bpx)) := grown_trans (grown_set v56 (Bpx) 0 (.slice p3 R.length q3)) (grown_set _ (Bpx) 1 (.slice p4 Z.length q4))
      have nx0 : ((v56.setCell ⟨Bpx, 0, none⟩ (.slice p3 R.length q3)).setCell ⟨Bpx, 1, none⟩ (.slice p4 Z.length q4)).cell? ⟨Bpx, 0, none⟩ = some (.slice p3 R.length q3) := (World.cell?_setCell_other _ _ _ _ (by simp)).trans (World.cell?_setCell_same _ _ _ px_0)
      have nf0 : ((v56.setCell ⟨Bpx, 0, none⟩ (.slice p3 R.length q3)).setCell ⟨Bpx, 1, none⟩ (.slice p4 Z.length q4)).frozen? ⟨Bpx, 0, none⟩ = false := by simp only [World.frozen?_setCell]; exact px_f0
      have nx1 : ((v56.setCell ⟨Bpx, 0, none⟩ (.slice p3 R.length q3)).setCell ⟨Bpx, 1, none⟩ (.slice p4 Z.length q4)).cell? ⟨Bpx, 1, none⟩ = some (.slice p4 Z.length q4) := World.cell?_setCell_same _ _ _ ((World.cell?_setCell_other _ _ _ _ (by simp)).trans px_1)
      have nf1 : ((v56.setCell ⟨Bpx, 0, none⟩ (.slice p3 R.length q3)).setCell ⟨Bpx, 1, none⟩ (.slice p4 Z.length q4)).frozen? ⟨Bpx, 1, none⟩ = false := by simp only [World.frozen?_setCell]; exact px_f1
      clear px_0 px_f0 px_1 px_f1
      generalize hwn : ((v56.setCell ⟨Bpx, 0, none⟩ (.slice p3 R.length q3)).setCell ⟨Bpx, 1, none⟩ (.slice p4 Z.length q4)) = v57 at *
      clear hwn
      have sz57 : v56.heap.size ≤ v57.heap.size := hg.size
      replace f2_0 := fro_grow hg x2_0 f2_0 (fun g e => by (have e2 : Bpx = g := by simpa using e); omega)
      replace f2_1 := fro_grow hg x2_1 f2_1 (fun g e => by (have e2 : Bpx = g := by simpa using e); omega)
      replace pa_f0 := fro_grow hg pa_0 pa_f0 (fun g e => by (have e2 : Bpx = g := by simpa using e); omega)
      replace pa_f1 := fro_grow hg pa_1 pa_f1 (fun g e => by (have e2 : Bpx = g := by simpa using e); omega)
      replace pb_f0 := fro_grow hg pb_0 pb_f0 (fun g e => by (have e2 : Bpx = g := by simpa using e); omega)
      replace pb_f1 := fro_grow hg pb_1 pb_f1 (fun g e => by (have e2 : Bpx = g := by simpa using e); omega)
      replace x0_0 := cell_grow hg x0_0 (fun g e => by (have e2 : Bpx = g := by simpa using e); omega)
      replace x0_1 := cell_grow hg x0_1 (fun g e => by (have e2 : Bpx = g := by simpa using e); omega)
      replace x1_0 := cell_grow hg x1_0 (fun g e => by (have e2 : Bpx = g := by simpa using e); omega)
      replace x1_1 := cell_grow hg x1_1 (fun g e => by (have e2 : Bpx = g := by simpa using e); omega)
      replace x2_0 := cell_grow hg x2_0 (fun g e => by (have e2 : Bpx = g := by simpa using e); omega)
      replace x2_1 := cell_grow hg x2_1 (fun g e => by (have e2 : Bpx = g := by simpa using e); omega)
      replace pa_0 := cell_grow hg pa_0 (fun g e => by (have e2 : Bpx = g := by simpa using e); omega)
      replace pa_1 := cell_grow hg pa_1 (fun g e => by (have e2 : Bpx = g := by simpa using e); omega)
      replace pb_0 := cell_grow hg pb_0 (fun g e => by (have e2 : Bpx = g := by simpa using e); omega)
      replace pb_1 := cell_grow hg pb_1 (fun g e => by (have e2 : Bpx = g := by simpa using e); omega)
      replace HOR := Lib.hid (own_grow hg HOR.out (fun g e => by (have e2 : Bpx = g := by simpa using e); omega))
      replace HOL := Lib.hid (own_grow hg HOL.out (fun g e => by (have e2 : Bpx = g := by simpa using e); omega))
      have HBh57 := Lib.hid (HBh56.out.grown hg (by have := HBh56.out.size; omega) (fun g e => by (have e2 : Bpx = g := by simpa using e); omega))
      have px_0 := nx0
      have px_f0 := nf0
      have px_1 := nx1
      have px_f1 := nf1
      clear hg nx0 nf0 nx1 nf1
      refine hK.out _ _ ?_ (fun hHeld => ?_)
      · exact ⟨x0_0, x0_1, x1_0, x1_1⟩
      clear hK K
      try simp only [List.getElem_toArray, List.getElem_cons_succ, List.getElem_cons_zero, Act.put, List.setIfInBounds_toArray, List.set_cons_zero, List.set_cons_succ]
      refine wpAnyH_done (by kernel_rfl) ?_ _
      refine NoPanic.normal ?_
      clear hHeld
      have hg9 := HRD.out v57 _ _ _ _ HOR.out HBh57.out
      have hi9 := HZD.out v57 _ _ _ _ HOL.out
      go_wp2_with fail
      refine (HCHG.out _ _ _ _ _ hg9 hi9).mono ?_
      rintro e va ⟨pv, lv, rfl, ho, hb⟩
      obtain ⟨p5, q5, rfl, hg5, _, _⟩ := ho.grid.slice
      obtain ⟨p6, q6, rfl, hi6, _, _⟩ := ho.ints.slice
      have sza : v57.heap.size ≤ va.heap.size := hb.size
      replace x2_0 := cell_below hb x2_0 (by omega)
      replace x2_1 := cell_below hb x2_1 (by omega)
      replace f2_0 := fro_below hb f2_0 (by omega)
      replace f2_1 := fro_below hb f2_1 (by omega)
      have HOS := Lib.hid ho
      have HBA := Lib.hid (HBh57.out.trans (hb.mono (by omega)))
      have HG5 := Lib.hid hg5
      have HI5 := Lib.hid hi6
      clear ho hb hg5 hi6 hg9 hi9
      go_wp2_with fail
      refine (HCK.out _ _ _ _ _ HG5.out HI5.out).mono ?_
      rintro e vb ⟨rfl, hb⟩
      have szb : va.heap.size ≤ vb.heap.size := hb.size
      replace x2_0 := cell_below hb x2_0 (by omega)
      replace x2_1 := cell_below hb x2_1 (by omega)
      replace f2_0 := fro_below hb f2_0 (by omega)
      replace f2_1 := fro_below hb f2_1 (by omega)
      have HOT := Lib.hid (HOS.out.below hb)
      have HBB := Lib.hid (HBA.out.trans (hb.mono (by omega)))
      clear hb
      go_wp2_with fail
      refine bodyPost_ret (v := .tuple #[.agg #[.slice p5 R.length q5, .slice p6 Z.length q6], .bool true]) (by simp [results, Try.results33, go_sem, x2_0, x2_1]) rfl ⟨_, _, rfl, ?_, ?_⟩
      · simp only [size_set]; exact ((HOT.out.set (by simp; omega) _).set (by simp; omega) _).mono (by omega) (by omega)
      · exact (HBB.out.setCell (by simp; omega) _).setCell (by simp; omega) _
    refine AllReadyH.cons rfl (fun K hK => ?_) AllReadyH.nil
    clear hHeld
    go_simp
    have px_0 : (v52.alloc (.cells #[.slice none 0 0, .slice none 0 0] 56)).cell? ⟨v52.heap.size, 0, none⟩ = some (.slice none 0 0) := cell_new _ _ _ rfl rfl
    have px_f0 : (v52.alloc (.cells #[.slice none 0 0, .slice none 0 0] 56)).frozen? ⟨v52.heap.size, 0, none⟩ = false := fro_new _ _ _ rfl
    have px_1 : (v52.alloc (.cells #[.slice none 0 0, .slice none 0 0] 56)).cell? ⟨v52.heap.size, 1, none⟩ = some (.slice none 0 0) := cell_new _ _ _ rfl rfl
    have px_f1 : (v52.alloc (.cells #[.slice none 0 0, .slice none 0 0] 56)).frozen? ⟨v52.heap.size, 1, none⟩ = false := fro_new _ _ _ rfl
    have hb := below_alloc v52 (.cells #[.slice none 0 0, .slice none 0 0] 56)
    have lt_px := size_alloc' v52 (.cells #[.slice none 0 0, .slice none 0 0] 56)
    generalize hwn : v52.alloc (.cells #[.slice none 0 0, .slice none 0 0] 56) = v53 at *
    clear hwn
    have sz53 : v52.heap.size ≤ v53.heap.size := hb.size
    replace f2_0 := fro_keep hb x2_0 f2_0
    replace f2_1 := fro_keep hb x2_1 f2_1
    replace pa_f0 := fro_keep hb pa_0 pa_f0
    replace pa_f1 := fro_keep hb pa_1 pa_f1
    replace x0_0 := cell_keep hb x0_0
    replace x0_1 := cell_keep hb x0_1
    replace x1_0 := cell_keep hb x1_0
    replace x1_1 := cell_keep hb x1_1
    replace x2_0 := cell_keep hb x2_0
    replace x2_1 := cell_keep hb x2_1
    replace pa_0 := cell_keep hb pa_0
    replace pa_1 := cell_keep hb pa_1
    have HBh53 := Lib.hid (HBh52.out.trans (hb.mono (by have := HBh52.out.size; omega)))
    clear hb
    obtain ⟨Bpx, hBpx⟩ : ∃ Bpx : Nat, Bpx = v52.heap.size := ⟨_, rfl⟩
    rw [← hBpx] at px_0 px_f0 px_1 px_f1 ⊢
    have hBlpx : Bpx ≤ v52.heap.size ∧ v52.heap.size ≤ Bpx := by omega
    clear hBpx
    refine hK.out _ _ ?_ (fun hHeld => ?_)
    · exact ⟨x0_0, x0_1, x1_0, x1_1⟩
    clear hK K
    try simp only [List.getElem_toArray, List.getElem_cons_succ, List.getElem_cons_zero, Act.put, List.setIfInBounds_toArray, List.set_cons_zero, List.set_cons_succ]
    refine wpAnyH_ready (rs := [5, 10]) (by kernel_rfl) (by simp) ?_
    refine AllReadyH.cons rfl (fun K hK => ?_) ?_
    · skip
      clear hHeld
      go_simp
      refine (HCR.out Bpa v53 HBh53.out pa_0 pa_1 (by omega)).mono ?_
      rintro e v54 ⟨p3, q3, rfl, ho, hb⟩
      have sz54 : v53.heap.size ≤ v54.heap.size := hb.size
      replace f2_0 := fro_keep hb x2_0 f2_0
      replace f2_1 := fro_keep hb x2_1 f2_1
      replace pa_f0 := fro_keep hb pa_0 pa_f0
      replace pa_f1 := fro_keep hb pa_1 pa_f1
      replace px_f0 := fro_keep hb px_0 px_f0
      replace px_f1 := fro_keep hb px_1 px_f1
      replace x0_0 := cell_keep hb x0_0
      replace x0_1 := cell_keep hb x0_1
      replace x1_0 := cell_keep hb x1_0
      replace x1_1 := cell_keep hb x1_1
      replace x2_0 := cell_keep hb x2_0
      replace x2_1 := cell_keep hb x2_1
      replace pa_0 := cell_keep hb pa_0
      replace pa_1 := cell_keep hb pa_1
      replace px_0 := cell_keep hb px_0
      replace px_1 := cell_keep hb px_1
      have HBh54 := Lib.hid (HBh53.out.trans (hb.mono (by have := HBh53.out.size; omega)))
      clear hb
      have HOR := Lib.hid ho
      clear ho
      refine hK.out _ _ ?_ (fun hHeld => ?_)
      · exact ⟨x0_0, x0_1, x1_0, x1_1⟩
      clear hK K
      try simp only [List.getElem_toArray, List.getElem_cons_succ, List.getElem_cons_zero, Act.put, List.setIfInBounds_toArray, List.set_cons_zero, List.set_cons_succ]
      refine wpAnyH_ready (rs := [10]) (by kernel_rfl) (by simp) ?_
      refine AllReadyH.cons rfl (fun K hK => ?_) AllReadyH.nil
      clear hHeld
      go_simp
      have pb_0 : (v54.alloc (.cells #[.slice a' zs.length c', .slice b' zs1.length d'] 22)).cell? ⟨v54.heap.size, 0, none⟩ = some (.slice a' zs.length c') := cell_new _ _ _ rfl rfl
      have pb_f0 : (v54.alloc (.cells #[.slice a' zs.length c', .slice b' zs1.length d'] 22)).frozen? ⟨v54.heap.size, 0, none⟩ = false := fro_new _ _ _ rfl
      have pb_1 : (v54.alloc (.cells #[.slice a' zs.length c', .slice b' zs1.length d'] 22)).cell? ⟨v54.heap.size, 1, none⟩ = some (.slice b' zs1.length d') := cell_new _ _ _ rfl rfl
      have pb_f1 : (v54.alloc (.cells #[.slice a' zs.length c', .slice b' zs1.length d'] 22)).frozen? ⟨v54.heap.size, 1, none⟩ = false := fro_new _ _ _ rfl
      have hb := below_alloc v54 (.cells #[.slice a' zs.length c', .slice b' zs1.length d'] 22)
      have lt_pb := size_alloc' v54 (.cells #[.slice a' zs.length c', .slice b' zs1.length d'] 22)
      generalize hwn : v54.alloc (.cells #[.slice a' zs.length c', .slice b' zs1.length d'] 22) = v55 at *
      clear hwn
      have sz55 : v54.heap.size ≤ v55.heap.size := hb.size
      replace f2_0 := fro_keep hb x2_0 f2_0
      replace f2_1 := fro_keep hb x2_1 f2_1
      replace pa_f0 := fro_keep hb pa_0 pa_f0
      replace pa_f1 := fro_keep hb pa_1 pa_f1
      replace px_f0 := fro_keep hb px_0 px_f0
      replace px_f1 := fro_keep hb px_1 px_f1
      replace x0_0 := cell_keep hb x0_0
      replace x0_1 := cell_keep hb x0_1
      replace x1_0 := cell_keep hb x1_0
      replace x1_1 := cell_keep hb x1_1
      replace x2_0 := cell_keep hb x2_0
      replace x2_1 := cell_keep hb x2_1
      replace pa_0 := cell_keep hb pa_0
      replace pa_1 := cell_keep hb pa_1
      replace px_0 := cell_keep hb px_0
      replace px_1 := cell_keep hb px_1
      replace HOR := Lib.hid (HOR.out.below hb)
      have HBh55 := Lib.hid (HBh54.out.trans (hb.mono (by have := HBh54.out.size; omega)))
      clear hb
      obtain ⟨Bpb, hBpb⟩ : ∃ Bpb : Nat, Bpb = v54.heap.size := ⟨_, rfl⟩
      rw [← hBpb] at pb_0 pb_f0 pb_1 pb_f1 ⊢
      have hBlpb : Bpb ≤ v54.heap.size ∧ v54.heap.size ≤ Bpb := by omega
      clear hBpb
      refine hK.out _ _ ?_ (fun hHeld => ?_)
      · exact ⟨x0_0, x0_1, x1_0, x1_1⟩
      clear hK K
      try simp only [List.getElem_toArray, List.getElem_cons_succ, List.getElem_cons_zero, Act.put, List.setIfInBounds_toArray, List.set_cons_zero, List.set_cons_succ]
      refine wpAnyH_ready (rs := [11]) (by kernel_rfl) (by simp) ?_
      refine AllReadyH.cons rfl (fun K hK => ?_) AllReadyH.nil
      clear hHeld
      go_simp
      refine (HCL.out Bpb v55 HBh55.out pb_0 pb_1 (by omega)).mono ?_
      rintro e v56 ⟨p4, q4, rfl, ho, hb⟩
      have sz56 : v55.heap.size ≤ v56.heap.size := hb.size
      replace f2_0 := fro_keep hb x2_0 f2_0
      replace f2_1 := fro_keep hb x2_1 f2_1
      replace pa_f0 := fro_keep hb pa_0 pa_f0
      replace pa_f1 := fro_keep hb pa_1 pa_f1
      replace px_f0 := fro_keep hb px_0 px_f0
      replace px_f1 := fro_keep hb px_1 px_f1
      replace pb_f0 := fro_keep hb pb_0 pb_f0
      replace pb_f1 := fro_keep hb pb_1 pb_f1
      replace x0_0 := cell_keep hb x0_0
      replace x0_1 := cell_keep hb x0_1
      replace x1_0 := cell_keep hb x1_0
      replace x1_1 := cell_keep hb x1_1
      replace x2_0 := cell_keep hb x2_0
      replace x2_1 := cell_keep hb x2_1
      replace pa_0 := cell_keep hb pa_0
      replace pa_1 := cell_keep hb pa_1
      replace px_0 := cell_keep hb px_0
      replace px_1 := cell_keep hb px_1
      replace pb_0 := cell_keep hb pb_0
      replace pb_1 := cell_keep hb pb_1
      replace HOR := Lib.hid (HOR.out.below hb)
      have HBh56 := Lib.hid (HBh55.out.trans (hb.mono (by have := HBh55.out.size; omega)))
      clear hb
      have HOL := Lib.hid ho
      clear ho
      refine hK.out _ _ ?_ (fun hHeld => ?_)
      · exact ⟨x0_0, x0_1, x1_0, x1_1⟩
      clear hK K
      try simp only [List.getElem_toArray, List.getElem_cons_succ, List.getElem_cons_zero, Act.put, List.setIfInBounds_toArray, List.set_cons_zero, List.set_cons_succ]
      refine wpAnyH_take (i := 12) (v := ?_) rfl (by kernel_rfl) (by kernel_rfl) (by kernel_rfl) (fun _ _ _ h => h) (Or.inl ⟨by rfl, ?_⟩) (by assumption) ?_
      rotate_left
      · intro w9 hSw; (try dsimp only at hSw); go_simp; try with_reducible rfl
      try simp only [List.getElem_toArray, List.getElem_cons_succ, List.getElem_cons_zero, Act.put, List.setIfInBounds_toArray, List.set_cons_zero, List.set_cons_succ]
      refine wpAnyH_ready (rs := [14]) (by kernel_rfl) (by simp) ?_
      refine AllReadyH.cons rfl (fun K hK => ?_) AllReadyH.nil
      clear hHeld
      go_simp
      have hg : v56.grownBy ((v56.setCell ⟨Bpx, 0, none⟩ (.slice p3 R.length q3)).setCell ⟨Bpx, 1, none⟩ (.slice p4 Z.length q4)) (some (Bpx)) := grown_trans (grown_set v56 (Bpx) 0 (.slice p3 R.length q3)) (grown_set _ (Bpx) 1 (.slice p4 Z.length q4))
      have nx0 : ((v56.setCell ⟨Bpx, 0, none⟩ (.slice p3 R.length q3)).setCell ⟨Bpx, 1, none⟩ (.slice p4 Z.length q4)).cell? ⟨Bpx, 0, none⟩ = some (.slice p3 R.length q3) := (World.cell?_setCell_other _ _ _ _ (by simp)).trans (World.cell?_setCell_same _ _ _ px_0)
      have nf0 : ((v56.setCell ⟨Bpx, 0, none⟩ (.slice p3 R.length q3)).setCell ⟨Bpx, 1, none⟩ (.slice p4 Z.length q4)).frozen? ⟨Bpx, 0, none⟩ = false := by simp only [World.frozen?_setCell]; exact px_f0
      have nx1 : ((v56.setCell ⟨Bpx, 0, none⟩ (.slice p3 R.length q3)).setCell ⟨Bpx, 1, none⟩ (.slice p4 Z.length q4)).cell? ⟨Bpx, 1, none⟩ = some (.slice p4 Z.length q4) := World.cell?_setCell_same _ _ _ ((World.cell?_setCell_other _ _ _ _ (by simp)).trans px_1)
      have nf1 : ((v56.setCell ⟨Bpx, 0, none⟩ (.slice p3 R.length q3)).setCell ⟨Bpx, 1, none⟩ (.slice p4 Z.length q4)).frozen? ⟨Bpx, 1, none⟩ = false := by simp only [World.frozen?_setCell]; exact px_f1
      clear px_0 px_f0 px_1 px_f1
      generalize hwn : ((v56.setCell ⟨Bpx, 0, none⟩ (.slice p3 R.length q3)).setCell ⟨Bpx, 1, none⟩ (.slice p4 Z.length q4)) = v57 at *
      clear hwn
      have sz57 : v56.heap.size ≤ v57.heap.size := hg.size
      replace f2_0 := fro_grow hg x2_0 f2_0 (fun g e => by (have e2 : Bpx = g := by simpa using e); omega)
      replace f2_1 := fro_grow hg x2_1 f2_1 (fun g e => by (have e2 : Bpx = g := by simpa using e); omega)
      replace pa_f0 := fro_grow hg pa_0 pa_f0 (fun g e => by (have e2 : Bpx = g := by simpa using e); omega)
      replace pa_f1 := fro_grow hg pa_1 pa_f1 (fun g e => by (have e2 : Bpx = g := by simpa using e); omega)
      replace pb_f0 := fro_grow hg pb_0 pb_f0 (fun g e => by (have e2 : Bpx = g := by simpa using e); omega)
      replace pb_f1 := fro_grow hg pb_1 pb_f1 (fun g e => by (have e2 : Bpx = g := by simpa using e); omega)
      replace x0_0 := cell_grow hg x0_0 (fun g e => by (have e2 : Bpx = g := by simpa using e); omega)
      replace x0_1 := cell_grow hg x0_1 (fun g e => by (have e2 : Bpx = g := by simpa using e); omega)
      replace x1_0 := cell_grow hg x1_0 (fun g e => by (have e2 : Bpx = g := by simpa using e); omega)
      replace x1_1 := cell_grow hg x1_1 (fun g e => by (have e2 : Bpx = g := by simpa using e); omega)
      replace x2_0 := cell_grow hg x2_0 (fun g e => by (have e2 : Bpx = g := by simpa using e); omega)
      replace x2_1 := cell_grow hg x2_1 (fun g e => by (have e2 : Bpx = g := by simpa using e); omega)
      replace pa_0 := cell_grow hg pa_0 (fun g e => by (have e2 : Bpx = g := by simpa using e); omega)
      replace pa_1 := cell_grow hg pa_1 (fun g e => by (have e2 : Bpx = g := by simpa using e); omega)
      replace pb_0 := cell_grow hg pb_0 (fun g e => by (have e2 : Bpx = g := by simpa using e); omega)
      replace pb_1 := cell_grow hg pb_1 (fun g e => by (have e2 : Bpx = g := by simpa using e); omega)
      replace HOR := Lib.hid (own_grow hg HOR.out (fun g e => by (have e2 : Bpx = g := by simpa using e); omega))
      replace HOL := Lib.hid (own_grow hg HOL.out (fun g e => by (have e2 : Bpx = g := by simpa using e); omega))
      have HBh57 := Lib.hid (HBh56.out.grown hg (by have := HBh56.out.size; omega) (fun g e => by (have e2 : Bpx = g := by simpa using e); omega))
      have px_0 := nx0
      have px_f0 := nf0
      have px_1 := nx1
      have px_f1 := nf1
      clear hg nx0 nf0 nx1 nf1
      refine hK.out _ _ ?_ (fun hHeld => ?_)
      · exact ⟨x0_0, x0_1, x1_0, x1_1⟩
      clear hK K
      try simp only [List.getElem_toArray, List.getElem_cons_succ, List.getElem_cons_zero, Act.put, List.setIfInBounds_toArray, List.set_cons_zero, List.set_cons_succ]
      refine wpAnyH_done (by kernel_rfl) ?_ _
      refine NoPanic.normal ?_
      clear hHeld
      have hg9 := HRD.out v57 _ _ _ _ HOR.out HBh57.out
      have hi9 := HZD.out v57 _ _ _ _ HOL.out
      go_wp2_with fail
      refine (HCHG.out _ _ _ _ _ hg9 hi9).mono ?_
      rintro e va ⟨pv, lv, rfl, ho, hb⟩
      obtain ⟨p5, q5, rfl, hg5, _, _⟩ := ho.grid.slice
      obtain ⟨p6, q6, rfl, hi6, _, _⟩ := ho.ints.slice
      have sza : v57.heap.size ≤ va.heap.size := hb.size
      replace x2_0 := cell_below hb x2_0 (by omega)
      replace x2_1 := cell_below hb x2_1 (by omega)
      replace f2_0 := fro_below hb f2_0 (by omega)
      replace f2_1 := fro_below hb f2_1 (by omega)
      have HOS := Lib.hid ho
      have HBA := Lib.hid (HBh57.out.trans (hb.mono (by omega)))
      have HG5 := Lib.hid hg5
      have HI5 := Lib.hid hi6
      clear ho hb hg5 hi6 hg9 hi9
      go_wp2_with fail
      refine (HCK.out _ _ _ _ _ HG5.out HI5.out).mono ?_
      rintro e vb ⟨rfl, hb⟩
      have szb : va.heap.size ≤ vb.heap.size := hb.size
      replace x2_0 := cell_below hb x2_0 (by omega)
      replace x2_1 := cell_below hb x2_1 (by omega)
      replace f2_0 := fro_below hb f2_0 (by omega)
      replace f2_1 := fro_below hb f2_1 (by omega)
      have HOT := Lib.hid (HOS.out.below hb)
      have HBB := Lib.hid (HBA.out.trans (hb.mono (by omega)))
      clear hb
      go_wp2_with fail
      refine bodyPost_ret (v := .tuple #[.agg #[.slice p5 R.length q5, .slice p6 Z.length q6], .bool true]) (by simp [results, Try.results33, go_sem, x2_0, x2_1]) rfl ⟨_, _, rfl, ?_, ?_⟩
      · simp only [size_set]; exact ((HOT.out.set (by simp; omega) _).set (by simp; omega) _).mono (by omega) (by omega)
      · exact (HBB.out.setCell (by simp; omega) _).setCell (by simp; omega) _
    refine AllReadyH.cons rfl (fun K hK => ?_) AllReadyH.nil
    clear hHeld
    go_simp
    have pb_0 : (v53.alloc (.cells #[.slice a' zs.length c', .slice b' zs1.length d'] 22)).cell? ⟨v53.heap.size, 0, none⟩ = some (.slice a' zs.length c') := cell_new _ _ _ rfl rfl
    have pb_f0 : (v53.alloc (.cells #[.slice a' zs.length c', .slice b' zs1.length d'] 22)).frozen? ⟨v53.heap.size, 0, none⟩ = false := fro_new _ _ _ rfl
    have pb_1 : (v53.alloc (.cells #[.slice a' zs.length c', .slice b' zs1.length d'] 22)).cell? ⟨v53.heap.size, 1, none⟩ = some (.slice b' zs1.length d') := cell_new _ _ _ rfl rfl
    have pb_f1 : (v53.alloc (.cells #[.slice a' zs.length c', .slice b' zs1.length d'] 22)).frozen? ⟨v53.heap.size, 1, none⟩ = false := fro_new _ _ _ rfl
    have hb := below_alloc v53 (.cells #[.slice a' zs.length c', .slice b' zs1.length d'] 22)
    have lt_pb := size_alloc' v53 (.cells #[.slice a' zs.length c', .slice b' zs1.length d'] 22)
    generalize hwn : v53.alloc (.cells #[.slice a' zs.length c', .slice b' zs1.length d'] 22) = v54 at *
    clear hwn
    have sz54 : v53.heap.size ≤ v54.heap.size := hb.size
    replace f2_0 := fro_keep hb x2_0 f2_0
    replace f2_1 := fro_keep hb x2_1 f2_1
    replace pa_f0 := fro_keep hb pa_0 pa_f0
    replace pa_f1 := fro_keep hb pa_1 pa_f1
    replace px_f0 := fro_keep hb px_0 px_f0
    replace px_f1 := fro_keep hb px_1 px_f1
    replace x0_0 := cell_keep hb x0_0
    replace x0_1 := cell_keep hb x0_1
    replace x1_0 := cell_keep hb x1_0
    replace x1_1 := cell_keep hb x1_1
    replace x2_0 := cell_keep hb x2_0
    replace x2_1 := cell_keep hb x2_1
    replace pa_0 := cell_keep hb pa_0
    replace pa_1 := cell_keep hb pa_1
    replace px_0 := cell_keep hb px_0
    replace px_1 := cell_keep hb px_1
    have HBh54 := Lib.hid (HBh53.out.trans (hb.mono (by have := HBh53.out.size; omega)))
    clear hb
    obtain ⟨Bpb, hBpb⟩ : ∃ Bpb : Nat, Bpb = v53.heap.size := ⟨_, rfl⟩
    rw [← hBpb] at pb_0 pb_f0 pb_1 pb_f1 ⊢
    have hBlpb : Bpb ≤ v53.heap.size ∧ v53.heap.size ≤ Bpb := by omega
    clear hBpb
    refine hK.out _ _ ?_ (fun hHeld => ?_)
    · exact ⟨x0_0, x0_1, x1_0, x1_1⟩
    clear hK K
    try simp only [List.getElem_toArray, List.getElem_cons_succ, List.getElem_cons_zero, Act.put, List.setIfInBounds_toArray, List.set_cons_zero, List.set_cons_succ]
    refine wpAnyH_ready (rs := [5]) (by kernel_rfl) (by simp) ?_
    refine AllReadyH.cons rfl (fun K hK => ?_) AllReadyH.nil
    clear hHeld
    go_simp
    refine (HCR.out Bpa v54 HBh54.out pa_0 pa_1 (by omega)).mono ?_
    rintro e v55 ⟨p3, q3, rfl, ho, hb⟩
    have sz55 : v54.heap.size ≤ v55.heap.size := hb.size
    replace f2_0 := fro_keep hb x2_0 f2_0
    replace f2_1 := fro_keep hb x2_1 f2_1
    replace pa_f0 := fro_keep hb pa_0 pa_f0
    replace pa_f1 := fro_keep hb pa_1 pa_f1
    replace px_f0 := fro_keep hb px_0 px_f0
    replace px_f1 := fro_keep hb px_1 px_f1
    replace pb_f0 := fro_keep hb pb_0 pb_f0
    replace pb_f1 := fro_keep hb pb_1 pb_f1
    replace x0_0 := cell_keep hb x0_0
    replace x0_1 := cell_keep hb x0_1
    replace x1_0 := cell_keep hb x1_0
    replace x1_1 := cell_keep hb x1_1
    replace x2_0 := cell_keep hb x2_0
    replace x2_1 := cell_keep hb x2_1
    replace pa_0 := cell_keep hb pa_0
    replace pa_1 := cell_keep hb pa_1
    replace px_0 := cell_keep hb px_0
    replace px_1 := cell_keep hb px_1
    replace pb_0 := cell_keep hb pb_0
    replace pb_1 := cell_keep hb pb_1
    have HBh55 := Lib.hid (HBh54.out.trans (hb.mono (by have := HBh54.out.size; omega)))
    clear hb
    have HOR := Lib.hid ho
    clear ho
    refine hK.out _ _ ?_ (fun hHeld => ?_)
    · exact ⟨x0_0, x0_1, x1_0, x1_1⟩
    clear hK K
    try simp only [List.getElem_toArray, List.getElem_cons_succ, List.getElem_cons_zero, Act.put, List.setIfInBounds_toArray, List.set_cons_zero, List.set_cons_succ]
    refine wpAnyH_ready (rs := [11]) (by kernel_rfl) (by simp) ?_
    refine AllReadyH.cons rfl (fun K hK => ?_) AllReadyH.nil
    clear hHeld
    go_simp
    refine (HCL.out Bpb v55 HBh55.out pb_0 pb_1 (by omega)).mono ?_
    rintro e v56 ⟨p4, q4, rfl, ho, hb⟩
    have sz56 : v55.heap.size ≤ v56.heap.size := hb.size
    replace f2_0 := fro_keep hb x2_0 f2_0
    replace f2_1 := fro_keep hb x2_1 f2_1
    replace pa_f0 := fro_keep hb pa_0 pa_f0
    replace pa_f1 := fro_keep hb pa_1 pa_f1
    replace px_f0 := fro_keep hb px_0 px_f0
    replace px_f1 := fro_keep hb px_1 px_f1
    replace pb_f0 := fro_keep hb pb_0 pb_f0
    replace pb_f1 := fro_keep hb pb_1 pb_f1
    replace x0_0 := cell_keep hb x0_0
    replace x0_1 := cell_keep hb x0_1
    replace x1_0 := cell_keep hb x1_0
    replace x1_1 := cell_keep hb x1_1
    replace x2_0 := cell_keep hb x2_0
    replace x2_1 := cell_keep hb x2_1
    replace pa_0 := cell_keep hb pa_0
    replace pa_1 := cell_keep hb pa_1
    replace px_0 := cell_keep hb px_0
    replace px_1 := cell_keep hb px_1
    replace pb_0 := cell_keep hb pb_0
    replace pb_1 := cell_keep hb pb_1
    replace HOR := Lib.hid (HOR.out.below hb)
    have HBh56 := Lib.hid (HBh55.out.trans (hb.mono (by have := HBh55.out.size; omega)))
    clear hb
    have HOL := Lib.hid ho
    clear ho
    refine hK.out _ _ ?_ (fun hHeld => ?_)
    · exact ⟨x0_0, x0_1, x1_0, x1_1⟩
    clear hK K
    try simp only [List.getElem_toArray, List.getElem_cons_succ, List.getElem_cons_zero, Act.put, List.setIfInBounds_toArray, List.set_cons_zero, List.set_cons_succ]
    refine wpAnyH_take (i := 12) (v := ?_) rfl (by kernel_rfl) (by kernel_rfl) (by kernel_rfl) (fun _ _ _ h => h) (Or.inl ⟨by rfl, ?_⟩) (by assumption) ?_
    rotate_left
    · intro w9 hSw; (try dsimp only at hSw); go_simp; try with_reducible rfl
    try simp only [List.getElem_toArray, List.getElem_cons_succ, List.getElem_cons_zero, Act.put, List.setIfInBounds_toArray, List.set_cons_zero, List.set_cons_succ]
    refine wpAnyH_ready (rs := [14]) (by kernel_rfl) (by simp) ?_
    refine AllReadyH.cons rfl (fun K hK => ?_) AllReadyH.nil
    clear hHeld
    go_simp
    have hg : v56.grownBy ((v56.setCell ⟨Bpx, 0, none⟩ (.slice p3 R.length q3)).setCell ⟨Bpx, 1, none⟩ (.slice p4 Z.length q4)) (some (Bpx)) := grown_trans (grown_set v56 (Bpx) 0 (.slice p3 R.length q3)) (grown_set _ (Bpx) 1 (.slice p4 Z.length q4))
    have nx0 : ((v56.setCell ⟨Bpx, 0, none⟩ (.slice p3 R.length q3)).setCell ⟨Bpx, 1, none⟩ (.slice p4 Z.length q4)).cell? ⟨Bpx, 0, none⟩ = some (.slice p3 R.length q3) := (World.cell?_setCell_other _ _ _ _ (by simp)).trans (World.cell?_setCell_same _ _ _ px_0)
    have nf0 : ((v56.setCell ⟨Bpx, 0, none⟩ (.slice p3 R.length q3)).setCell ⟨Bpx, 1, none⟩ (.slice p4 Z.length q4)).frozen? ⟨Bpx, 0, none⟩ = false := by simp only [World.frozen?_setCell]; exact px_f0
    have nx1 : ((v56.setCell ⟨Bpx, 0, none⟩ (.slice p3 R.length q3)).setCell ⟨Bpx, 1, none⟩ (.slice p4 Z.length q4)).cell? ⟨Bpx, 1, none⟩ = some (.slice p4 Z.length q4) := World.cell?_setCell_same _ _ _ ((World.cell?_setCell_other _ _ _ _ (by simp)).trans px_1)
    have nf1 : ((v56.setCell ⟨Bpx, 0, none⟩ (.slice p3 R.length q3)).setCell ⟨Bpx, 1, none⟩ (.slice p4 Z.length q4)).frozen? ⟨Bpx, 1, none⟩ = false := by simp only [World.frozen?_setCell]; exact px_f1
    clear px_0 px_f0 px_1 px_f1
    generalize hwn : ((v56.setCell ⟨Bpx, 0, none⟩ (.slice p3 R.length q3)).setCell ⟨Bpx, 1, none⟩ (.slice p4 Z.length q4)) = v57 at *
    clear hwn
    have sz57 : v56.heap.size ≤ v57.heap.size := hg.size
    replace f2_0 := fro_grow hg x2_0 f2_0 (fun g e => by (have e2 : Bpx = g := by simpa using e); omega)
    replace f2_1 := fro_grow hg x2_1 f2_1 (fun g e => by (have e2 : Bpx = g := by simpa using e); omega)
    replace pa_f0 := fro_grow hg pa_0 pa_f0 (fun g e => by (have e2 : Bpx = g := by simpa using e); omega)
    replace pa_f1 := fro_grow hg pa_1 pa_f1 (fun g e => by (have e2 : Bpx = g := by simpa using e); omega)
    replace pb_f0 := fro_grow hg pb_0 pb_f0 (fun g e => by (have e2 : Bpx = g := by simpa using e); omega)
    replace pb_f1 := fro_grow hg pb_1 pb_f1 (fun g e => by (have e2 : Bpx = g := by simpa using e); omega)
    replace x0_0 := cell_grow hg x0_0 (fun g e => by (have e2 : Bpx = g := by simpa using e); omega)
    replace x0_1 := cell_grow hg x0_1 (fun g e => by (have e2 : Bpx = g := by simpa using e); omega)
    replace x1_0 := cell_grow hg x1_0 (fun g e => by (have e2 : Bpx = g := by simpa using e); omega)
    replace x1_1 := cell_grow hg x1_1 (fun g e => by (have e2 : Bpx = g := by simpa using e); omega)
    replace x2_0 := cell_grow hg x2_0 (fun g e => by (have e2 : Bpx = g := by simpa using e); omega)
    replace x2_1 := cell_grow hg x2_1 (fun g e => by (have e2 : Bpx = g := by simpa using e); omega)
    replace pa_0 := cell_grow hg pa_0 (fun g e => by (have e2 : Bpx = g := by simpa using e); omega)
    replace pa_1 := cell_grow hg pa_1 (fun g e => by (have e2 : Bpx = g := by simpa using e); omega)
    replace pb_0 := cell_grow hg pb_0 (fun g e => by (have e2 : Bpx = g := by simpa using e); omega)
    replace pb_1 := cell_grow hg pb_1 (fun g e => by (have e2 : Bpx = g := by simpa using e); omega)
    replace HOR := Lib.hid (own_grow hg HOR.out (fun g e => by (have e2 : Bpx = g := by simpa using e); omega))
    replace HOL := Lib.hid (own_grow hg HOL.out (fun g e => by (have e2 : Bpx = g := by simpa using e); omega))
    have HBh57 := Lib.hid (HBh56.out.grown hg (by have := HBh56.out.size; omega) (fun g e => by (have e2 : Bpx = g := by simpa using e); omega))
    have px_0 := nx0
    have px_f0 := nf0
    have px_1 := nx1
    have px_f1 := nf1
    clear hg nx0 nf0 nx1 nf1
    refine hK.out _ _ ?_ (fun hHeld => ?_)
    · exact ⟨x0_0, x0_1, x1_0, x1_1⟩
    clear hK K
    try simp only [List.getElem_toArray, List.getElem_cons_succ, List.getElem_cons_zero, Act.put, List.setIfInBounds_toArray, List.set_cons_zero, List.set_cons_succ]
    refine wpAnyH_done (by kernel_rfl) ?_ _
    refine NoPanic.normal ?_
    clear hHeld
    have hg9 := HRD.out v57 _ _ _ _ HOR.out HBh57.out
    have hi9 := HZD.out v57 _ _ _ _ HOL.out
    go_wp2_with fail
    refine (HCHG.out _ _ _ _ _ hg9 hi9).mono ?_
    rintro e va ⟨pv, lv, rfl, ho, hb⟩
    obtain ⟨p5, q5, rfl, hg5, _, _⟩ := ho.grid.slice
    obtain ⟨p6, q6, rfl, hi6, _, _⟩ := ho.ints.slice
    have sza : v57.heap.size ≤ va.heap.size := hb.size
    replace x2_0 := cell_below hb x2_0 (by omega)
    replace x2_1 := cell_below hb x2_1 (by omega)
    replace f2_0 := fro_below hb f2_0 (by omega)
    replace f2_1 := fro_below hb f2_1 (by omega)
    have HOS := Lib.hid ho
    have HBA := Lib.hid (HBh57.out.trans (hb.mono (by omega)))
    have HG5 := Lib.hid hg5
    have HI5 := Lib.hid hi6
    clear ho hb hg5 hi6 hg9 hi9
    go_wp2_with fail
    refine (HCK.out _ _ _ _ _ HG5.out HI5.out).mono ?_
    rintro e vb ⟨rfl, hb⟩
    have szb : va.heap.size ≤ vb.heap.size := hb.size
    replace x2_0 := cell_below hb x2_0 (by omega)
    replace x2_1 := cell_below hb x2_1 (by omega)
    replace f2_0 := fro_below hb f2_0 (by omega)
    replace f2_1 := fro_below hb f2_1 (by omega)
    have HOT := Lib.hid (HOS.out.below hb)
    have HBB := Lib.hid (HBA.out.trans (hb.mono (by omega)))
    clear hb
    go_wp2_with fail
    refine bodyPost_ret (v := .tuple #[.agg #[.slice p5 R.length q5, .slice p6 Z.length q6], .bool true]) (by simp [results, Try.results33, go_sem, x2_0, x2_1]) rfl ⟨_, _, rfl, ?_, ?_⟩
    · simp only [size_set]; exact ((HOT.out.set (by simp; omega) _).set (by simp; omega) _).mono (by omega) (by omega)
    · exact (HBB.out.setCell (by simp; omega) _).setCell (by simp; omega) _
  refine AllReadyH.cons rfl (fun K hK => ?_) ?_
  · skip
    clear hHeld
    go_simp
    have pb_0 : (v51.alloc (.cells #[.slice a' zs.length c', .slice b' zs1.length d'] 22)).cell? ⟨v51.heap.size, 0, none⟩ = some (.slice a' zs.length c') := cell_new _ _ _ rfl rfl
    have pb_f0 : (v51.alloc (.cells #[.slice a' zs.length c', .slice b' zs1.length d'] 22)).frozen? ⟨v51.heap.size, 0, none⟩ = false := fro_new _ _ _ rfl
    have pb_1 : (v51.alloc (.cells #[.slice a' zs.length c', .slice b' zs1.length d'] 22)).cell? ⟨v51.heap.size, 1, none⟩ = some (.slice b' zs1.length d') := cell_new _ _ _ rfl rfl
    have pb_f1 : (v51.alloc (.cells #[.slice a' zs.length c', .slice b' zs1.length d'] 22)).frozen? ⟨v51.heap.size, 1, none⟩ = false := fro_new _ _ _ rfl
    have hb := below_alloc v51 (.cells #[.slice a' zs.length c', .slice b' zs1.length d'] 22)
    have lt_pb := size_alloc' v51 (.cells #[.slice a' zs.length c', .slice b' zs1.length d'] 22)
    generalize hwn : v51.alloc (.cells #[.slice a' zs.length c', .slice b' zs1.length d'] 22) = v52 at *
    clear hwn
    have sz52 : v51.heap.size ≤ v52.heap.size := hb.size
    replace f2_0 := fro_keep hb x2_0 f2_0
    replace f2_1 := fro_keep hb x2_1 f2_1
    replace x0_0 := cell_keep hb x0_0
    replace x0_1 := cell_keep hb x0_1
    replace x1_0 := cell_keep hb x1_0
    replace x1_1 := cell_keep hb x1_1
    replace x2_0 := cell_keep hb x2_0
    replace x2_1 := cell_keep hb x2_1
    have HBh52 := Lib.hid (HBh51.out.trans (hb.mono (by have := HBh51.out.size; omega)))
    clear hb
    obtain ⟨Bpb, hBpb⟩ : ∃ Bpb : Nat, Bpb = v51.heap.size := ⟨_, rfl⟩
    rw [← hBpb] at pb_0 pb_f0 pb_1 pb_f1 ⊢
    have hBlpb : Bpb ≤ v51.heap.size ∧ v51.heap.size ≤ Bpb := by omega
    clear hBpb
    refine hK.out _ _ ?_ (fun hHeld => ?_)
    · exact ⟨x0_0, x0_1, x1_0, x1_1⟩
    clear hK K
    try simp only [List.getElem_toArray, List.getElem_cons_succ, List.getElem_cons_zero, Act.put, List.setIfInBounds_toArray, List.set_cons_zero, List.set_cons_succ]
    refine wpAnyH_ready (rs := [4, 13]) (by kernel_rfl) (by simp) ?_
    refine AllReadyH.cons rfl (fun K hK => ?_) ?_
    · skip
      clear hHeld
      go_simp
      have pa_0 : (v52.alloc (.cells #[.slice a rows.length c, .slice b rows1.length d] 28)).cell? ⟨v52.heap.size, 0, none⟩ = some (.slice a rows.length c) := cell_new _ _ _ rfl rfl
      have pa_f0 : (v52.alloc (.cells #[.slice a rows.length c, .slice b rows1.length d] 28)).frozen? ⟨v52.heap.size, 0, none⟩ = false := fro_new _ _ _ rfl
      have pa_1 : (v52.alloc (.cells #[.slice a rows.length c, .slice b rows1.length d] 28)).cell? ⟨v52.heap.size, 1, none⟩ = some (.slice b rows1.length d) := cell_new _ _ _ rfl rfl
      have pa_f1 : (v52.alloc (.cells #[.slice a rows.length c, .slice b rows1.length d] 28)).frozen? ⟨v52.heap.size, 1, none⟩ = false := fro_new _ _ _ rfl
      have hb := below_alloc v52 (.cells #[.slice a rows.length c, .slice b rows1.length d] 28)
      have lt_pa := size_alloc' v52 (.cells #[.slice a rows.length c, .slice b rows1.length d] 28)
      generalize hwn : v52.alloc (.cells #[.slice a rows.length c, .slice b rows1.length d] 28) = v53 at *
      clear hwn
      have sz53 : v52.heap.size ≤ v53.heap.size := hb.size
      replace f2_0 := fro_keep hb x2_0 f2_0
      replace f2_1 := fro_keep hb x2_1 f2_1
      replace pb_f0 := fro_keep hb pb_0 pb_f0
      replace pb_f1 := fro_keep hb pb_1 pb_f1
      replace x0_0 := cell_keep hb x0_0
      replace x0_1 := cell_keep hb x0_1
      replace x1_0 := cell_keep hb x1_0
      replace x1_1 := cell_keep hb x1_1
      replace x2_0 := cell_keep hb x2_0
      replace x2_1 := cell_keep hb x2_1
      replace pb_0 := cell_keep hb pb_0
      replace pb_1 := cell_keep hb pb_1
      have HBh53 := Lib.hid (HBh52.out.trans (hb.mono (by have := HBh52.out.size; omega)))
      clear hb
      obtain ⟨Bpa, hBpa⟩ : ∃ Bpa : Nat, Bpa = v52.heap.size := ⟨_, rfl⟩
      rw [← hBpa] at pa_0 pa_f0 pa_1 pa_f1 ⊢
      have hBlpa : Bpa ≤ v52.heap.size ∧ v52.heap.size ≤ Bpa := by omega
      clear hBpa
      refine hK.out _ _ ?_ (fun hHeld => ?_)
      · exact ⟨x0_0, x0_1, x1_0, x1_1⟩
      clear hK K
      try simp only [List.getElem_toArray, List.getElem_cons_succ, List.getElem_cons_zero, Act.put, List.setIfInBounds_toArray, List.set_cons_zero, List.set_cons_succ]
      refine wpAnyH_ready (rs := [5, 13]) (by kernel_rfl) (by simp) ?_
      refine AllReadyH.cons rfl (fun K hK => ?_) ?_
      · skip
        clear hHeld
        go_simp
        refine (HCR.out Bpa v53 HBh53.out pa_0 pa_1 (by omega)).mono ?_
        rintro e v54 ⟨p3, q3, rfl, ho, hb⟩
        have sz54 : v53.heap.size ≤ v54.heap.size := hb.size
        replace f2_0 := fro_keep hb x2_0 f2_0
        replace f2_1 := fro_keep hb x2_1 f2_1
        replace pb_f0 := fro_keep hb pb_0 pb_f0
        replace pb_f1 := fro_keep hb pb_1 pb_f1
        replace pa_f0 := fro_keep hb pa_0 pa_f0
        replace pa_f1 := fro_keep hb pa_1 pa_f1
        replace x0_0 := cell_keep hb x0_0
        replace x0_1 := cell_keep hb x0_1
        replace x1_0 := cell_keep hb x1_0
        replace x1_1 := cell_keep hb x1_1
        replace x2_0 := cell_keep hb x2_0
        replace x2_1 := cell_keep hb x2_1
        replace pb_0 := cell_keep hb pb_0
        replace pb_1 := cell_keep hb pb_1
        replace pa_0 := cell_keep hb pa_0
        replace pa_1 := cell_keep hb pa_1
        have HBh54 := Lib.hid (HBh53.out.trans (hb.mono (by have := HBh53.out.size; omega)))
        clear hb
        have HOR := Lib.hid ho
        clear ho
        refine hK.out _ _ ?_ (fun hHeld => ?_)
        · exact ⟨x0_0, x0_1, x1_0, x1_1⟩
        clear hK K
        try simp only [List.getElem_toArray, List.getElem_cons_succ, List.getElem_cons_zero, Act.put, List.setIfInBounds_toArray, List.set_cons_zero, List.set_cons_succ]
        refine wpAnyH_ready (rs := [11, 13]) (by kernel_rfl) (by simp) ?_
        refine AllReadyH.cons rfl (fun K hK => ?_) ?_
        · skip
          clear hHeld
          go_simp
          refine (HCL.out Bpb v54 HBh54.out pb_0 pb_1 (by omega)).mono ?_
          rintro e v55 ⟨p4, q4, rfl, ho, hb⟩
          have sz55 : v54.heap.size ≤ v55.heap.size := hb.size
          replace f2_0 := fro_keep hb x2_0 f2_0
          replace f2_1 := fro_keep hb x2_1 f2_1
          replace pb_f0 := fro_keep hb pb_0 pb_f0
          replace pb_f1 := fro_keep hb pb_1 pb_f1
          replace pa_f0 := fro_keep hb pa_0 pa_f0
          replace pa_f1 := fro_keep hb pa_1 pa_f1
          replace x0_0 := cell_keep hb x0_0
          replace x0_1 := cell_keep hb x0_1
          replace x1_0 := cell_keep hb x1_0
          replace x1_1 := cell_keep hb x1_1
          replace x2_0 := cell_keep hb x2_0
          replace x2_1 := cell_keep hb x2_1
          replace pb_0 := cell_keep hb pb_0
          replace pb_1 := cell_keep hb pb_1
          replace pa_0 := cell_keep hb pa_0
          replace pa_1 := cell_keep hb pa_1
          replace HOR := Lib.hid (HOR.out.below hb)
          have HBh55 := Lib.hid (HBh54.out.trans (hb.mono (by have := HBh54.out.size; omega)))
          clear hb
          have HOL := Lib.hid ho
          clear ho
          refine hK.out _ _ ?_ (fun hHeld => ?_)
          · exact ⟨x0_0, x0_1, x1_0, x1_1⟩
          clear hK K
          try simp only [List.getElem_toArray, List.getElem_cons_succ, List.getElem_cons_zero, Act.put, List.setIfInBounds_toArray, List.set_cons_zero, List.set_cons_succ]
          refine wpAnyH_take (i := 12) (v := ?_) rfl (by kernel_rfl) (by kernel_rfl) (by kernel_rfl) (fun _ _ _ h => h) (Or.inl ⟨by rfl, ?_⟩) (by assumption) ?_
          rotate_left
          · intro w9 hSw; (try dsimp only at hSw); go_simp; try with_reducible rfl
          try simp only [List.getElem_toArray, List.getElem_cons_succ, List.getElem_cons_zero, Act.put, List.setIfInBounds_toArray, List.set_cons_zero, List.set_cons_succ]
          refine wpAnyH_ready (rs := [13]) (by kernel_rfl) (by simp) ?_
          refine AllReadyH.cons rfl (fun K hK => ?_) AllReadyH.nil
          clear hHeld
          go_simp
          have px_0 : (v55.alloc (.cells #[.slice none 0 0, .slice none 0 0] 56)).cell? ⟨v55.heap.size, 0, none⟩ = some (.slice none 0 0) := cell_new _ _ _ rfl rfl
          have px_f0 : (v55.alloc (.cells #[.slice none 0 0, .slice none 0 0] 56)).frozen? ⟨v55.heap.size, 0, none⟩ = false := fro_new _ _ _ rfl
          have px_1 : (v55.alloc (.cells #[.slice none 0 0, .slice none 0 0] 56)).cell? ⟨v55.heap.size, 1, none⟩ = some (.slice none 0 0) := cell_new _ _ _ rfl rfl
          have px_f1 : (v55.alloc (.cells #[.slice none 0 0, .slice none 0 0] 56)).frozen? ⟨v55.heap.size, 1, none⟩ = false := fro_new _ _ _ rfl
          have hb := below_alloc v55 (.cells #[.slice none 0 0, .slice none 0 0] 56)
          have lt_px := size_alloc' v55 (.cells #[.slice none 0 0, .slice none 0 0] 56)
          generalize hwn : v55.alloc (.cells #[.slice none 0 0, .slice none 0 0] 56) = v56 at *
          clear hwn
          have sz56 : v55.heap.size ≤ v56.heap.size := hb.size
          replace f2_0 := fro_keep hb x2_0 f2_0
          replace f2_1 := fro_keep hb x2_1 f2_1
          replace pb_f0 := fro_keep hb pb_0 pb_f0
          replace pb_f1 := fro_keep hb pb_1 pb_f1
          replace pa_f0 := fro_keep hb pa_0 pa_f0
          replace pa_f1 := fro_keep hb pa_1 pa_f1
          replace x0_0 := cell_keep hb x0_0
          replace x0_1 := cell_keep hb x0_1
          replace x1_0 := cell_keep hb x1_0
          replace x1_1 := cell_keep hb x1_1
          replace x2_0 := cell_keep hb x2_0
          replace x2_1 := cell_keep hb x2_1
          replace pb_0 := cell_keep hb pb_0
          replace pb_1 := cell_keep hb pb_1
          replace pa_0 := cell_keep hb pa_0
          replace pa_1 := cell_keep hb pa_1
          replace HOR := Lib.hid (HOR.out.below hb)
          replace HOL := Lib.hid (HOL.out.below hb)
          have HBh56 := Lib.hid (HBh55.out.trans (hb.mono (by have := HBh55.out.size; omega)))
          clear hb
          obtain ⟨Bpx, hBpx⟩ : ∃ Bpx : Nat, Bpx = v55.heap.size := ⟨_, rfl⟩
          rw [← hBpx] at px_0 px_f0 px_1 px_f1 ⊢
          have hBlpx : Bpx ≤ v55.heap.size ∧ v55.heap.size ≤ Bpx := by omega
          clear hBpx
          refine hK.out _ _ ?_ (fun hHeld => ?_)
          · exact ⟨x0_0, x0_1, x1_0, x1_1⟩
          clear hK K
          try simp only [List.getElem_toArray, List.getElem_cons_succ, List.getElem_cons_zero, Act.put, List.setIfInBounds_toArray, List.set_cons_zero, List.set_cons_succ]
          refine wpAnyH_ready (rs := [14]) (by kernel_rfl) (by simp) ?_
          refine AllReadyH.cons rfl (fun K hK => ?_) AllReadyH.nil
          clear hHeld
          go_simp
          have hg : v56.grownBy ((v56.setCell ⟨Bpx, 0, none⟩ (.slice p3 R.length q3)).setCell ⟨Bpx, 1, none⟩ (.slice p4 Z.length q4)) (some (Bpx)) := grown_trans (grown_set v56 (Bpx) 0 (.slice p3 R.length q3)) (grown_set _ (Bpx) 1 (.slice p4 Z.length q4))
          have nx0 : ((v56.setCell ⟨Bpx, 0, none⟩ (.slice p3 R.length q3)).setCell ⟨Bpx, 1, none⟩ (.slice p4 Z.length q4)).cell? ⟨Bpx, 0, none⟩ = some (.slice p3 R.length q3) := (World.cell?_setCell_other _ _ _ _ (by simp)).trans (World.cell?_setCell_same _ _ _ px_0)
          have nf0 : ((v56.setCell ⟨Bpx, 0, none⟩ (.slice p3 R.length q3)).setCell ⟨Bpx, 1, none⟩ (.slice p4 Z.length q4)).frozen? ⟨Bpx, 0, none⟩ = false := by simp only [World.frozen?_setCell]; exact px_f0
          have nx1 : ((v56.setCell ⟨Bpx, 0, none⟩ (.slice p3 R.length q3)).setCell ⟨Bpx, 1, none⟩ (.slice p4 Z.length q4)).cell? ⟨Bpx, 1, none⟩ = some (.slice p4 Z.length q4) := World.cell?_setCell_same _ _ _ ((World.cell?_setCell_other _ _ _ _ (by simp)).trans px_1)
          have nf1 : ((v56.setCell ⟨Bpx, 0, none⟩ (.slice p3 R.length q3)).setCell ⟨Bpx, 1, none⟩ (.slice p4 Z.length q4)).frozen? ⟨Bpx, 1, none⟩ = false := by simp only [World.frozen?_setCell]; exact px_f1
          clear px_0 px_f0 px_1 px_f1
          generalize hwn : ((v56.setCell ⟨Bpx, 0, none⟩ (.slice p3 R.length q3)).setCell ⟨Bpx, 1, none⟩ (.slice p4 Z.length q4)) = v57 at *
          clear hwn
          have sz57 : v56.heap.size ≤ v57.heap.size := hg.size
          replace f2_0 := fro_grow hg x2_0 f2_0 (fun g e => by (have e2 : Bpx = g := by simpa using e); omega)
          replace f2_1 := fro_grow hg x2_1 f2_1 (fun g e => by (have e2 : Bpx = g := by simpa using e); omega)
          replace pb_f0 := fro_grow hg pb_0 pb_f0 (fun g e => by (have e2 : Bpx = g := by simpa using e); omega)
          replace pb_f1 := fro_grow hg pb_1 pb_f1 (fun g e => by (have e2 : Bpx = g := by simpa using e); omega)
          replace pa_f0 := fro_grow hg pa_0 pa_f0 (fun g e => by (have e2 : Bpx = g := by simpa using e); omega)
          replace pa_f1 := fro_grow hg pa_1 pa_f1 (fun g e => by (have e2 : Bpx = g := by simpa using e); omega)
          replace x0_0 := cell_grow hg x0_0 (fun g e => by (have e2 : Bpx = g := by simpa using e); omega)
          replace x0_1 := cell_grow hg x0_1 (fun g e => by (have e2 : Bpx = g := by simpa using e); omega)
          replace x1_0 := cell_grow hg x1_0 (fun g e => by (have e2 : Bpx = g := by simpa using e); omega)
          replace x1_1 := cell_grow hg x1_1 (fun g e => by (have e2 : Bpx = g := by simpa using e); omega)
          replace x2_0 := cell_grow hg x2_0 (fun g e => by (have e2 : Bpx = g := by simpa using e); omega)
          replace x2_1 := cell_grow hg x2_1 (fun g e => by (have e2 : Bpx = g := by simpa using e); omega)
          replace pb_0 := cell_grow hg pb_0 (fun g e => by (have e2 : Bpx = g := by simpa using e); omega)
          replace pb_1 := cell_grow hg pb_1 (fun g e => by (have e2 : Bpx = g := by simpa using e); omega)
          replace pa_0 := cell_grow hg pa_0 (fun g e => by (have e2 : Bpx = g := by simpa using e); omega)
          replace pa_1 := cell_grow hg pa_1 (fun g e => by (have e2 : Bpx = g := by simpa using e); omega)
          replace HOR := Lib.hid (own_grow hg HOR.out (fun g e => by (have e2 : Bpx = g := by simpa using e); omega))
          replace HOL := Lib.hid (own_grow hg HOL.out (fun g e => by (have e2 : Bpx = g := by simpa using e); omega))
          have HBh57 := Lib.hid (HBh56.out.grown hg (by have := HBh56.out.size; omega) (fun g e => by (have e2 : Bpx = g := by simpa using e); omega))
          have px_0 := nx0
          have px_f0 := nf0
          have px_1 := nx1
          have px_f1 := nf1
          clear hg nx0 nf0 nx1 nf1
          refine hK.out _ _ ?_ (fun hHeld => ?_)
          · exact ⟨x0_0, x0_1, x1_0, x1_1⟩
          clear hK K
          try simp only [List.getElem_toArray, List.getElem_cons_succ, List.getElem_cons_zero, Act.put, List.setIfInBounds_toArray, List.set_cons_zero, List.set_cons_succ]
          refine wpAnyH_done (by kernel_rfl) ?_ _
          refine NoPanic.normal ?_
          clear hHeld
          have hg9 := HRD.out v57 _ _ _ _ HOR.out HBh57.out
          have hi9 := HZD.out v57 _ _ _ _ HOL.out
          go_wp2_with fail
          refine (HCHG.out _ _ _ _ _ hg9 hi9).mono ?_
          rintro e va ⟨pv, lv, rfl, ho, hb⟩
          obtain ⟨p5, q5, rfl, hg5, _, _⟩ := ho.grid.slice
          obtain ⟨p6, q6, rfl, hi6, _, _⟩ := ho.ints.slice
          have sza : v57.heap.size ≤ va.heap.size := hb.size
          replace x2_0 := cell_below hb x2_0 (by omega)
          replace x2_1 := cell_below hb x2_1 (by omega)
          replace f2_0 := fro_below hb f2_0 (by omega)
          replace f2_1 := fro_below hb f2_1 (by omega)
          have HOS := Lib.hid ho
          have HBA := Lib.hid (HBh57.out.trans (hb.mono (by omega)))
          have HG5 := Lib.hid hg5
          have HI5 := Lib.hid hi6
          clear ho hb hg5 hi6 hg9 hi9
          go_wp2_with fail
          refine (HCK.out _ _ _ _ _ HG5.out HI5.out).mono ?_
          rintro e vb ⟨rfl, hb⟩
          have szb : va.heap.size ≤ vb.heap.size := hb.size
          replace x2_0 := cell_below hb x2_0 (by omega)
          replace x2_1 := cell_below hb x2_1 (by omega)
          replace f2_0 := fro_below hb f2_0 (by omega)
          replace f2_1 := fro_below hb f2_1 (by omega)
          have HOT := Lib.hid (HOS.out.below hb)
          have HBB := Lib.hid (HBA.out.trans (hb.mono (by omega)))
          clear hb
          go_wp2_with fail
          refine bodyPost_ret (v := .tuple #[.agg #[.slice p5 R.length q5, .slice p6 Z.length q6], .bool true]) (by simp [results, Try.results33, go_sem, x2_0, x2_1]) rfl ⟨_, _, rfl, ?_, ?_⟩
          · simp only [size_set]; exact ((HOT.out.set (by simp; omega) _).set (by simp; omega) _).mono (by omega) (by omega)
          · exact (HBB.out.setCell (by simp; omega) _).setCell (by simp; omega) _
        refine AllReadyH.cons rfl (fun K hK => ?_) AllReadyH.nil
        clear hHeld
        go_simp
        have px_0 : (v54.alloc (.cells #[.slice none 0 0, .slice none 0 0] 56)).cell? ⟨v54.heap.size, 0, none⟩ = some (.slice none 0 0) := cell_new _ _ _ rfl rfl
        have px_f0 : (v54.alloc (.cells #[.slice none 0 0, .slice none 0 0] 56)).frozen? ⟨v54.heap.size, 0, none⟩ = false := fro_new _ _ _ rfl
        have px_1 : (v54.alloc (.cells #[.slice none 0 0, .slice none 0 0] 56)).cell? ⟨v54.heap.size, 1, none⟩ = some (.slice none 0 0) := cell_new _ _ _ rfl rfl
        have px_f1 : (v54.alloc (.cells #[.slice none 0 0, .slice none 0 0] 56)).frozen? ⟨v54.heap.size, 1, none⟩ = false := fro_new _ _ _ rfl
        have hb := below_alloc v54 (.cells #[.slice none 0 0, .slice none 0 0] 56)
        have lt_px := size_alloc' v54 (.cells #[.slice none 0 0, .slice none 0 0] 56)
        generalize hwn : v54.alloc (.cells #[.slice none 0 0, .slice none 0 0] 56) = v55 at *
        clear hwn
        have sz55 : v54.heap.size ≤ v55.heap.size := hb.size
        replace f2_0 := fro_keep hb x2_0 f2_0
        replace f2_1 := fro_keep hb x2_1 f2_1
        replace pb_f0 := fro_keep hb pb_0 pb_f0
        replace pb_f1 := fro_keep hb pb_1 pb_f1
        replace pa_f0 := fro_keep hb pa_0 pa_f0
        replace pa_f1 := fro_keep hb pa_1 pa_f1
        replace x0_0 := cell_keep hb x0_0
        replace x0_1 := cell_keep hb x0_1
        replace x1_0 := cell_keep hb x1_0
        replace x1_1 := cell_keep hb x1_1
        replace x2_0 := cell_keep hb x2_0
        replace x2_1 := cell_keep hb x2_1
        replace pb_0 := cell_keep hb pb_0
        replace pb_1 := cell_keep hb pb_1
        replace pa_0 := cell_keep hb pa_0
        replace pa_1 := cell_keep hb pa_1
        replace HOR := Lib.hid (HOR.out.below hb)
        have HBh55 := Lib.hid (HBh54.out.trans (hb.mono (by have := HBh54.out.size; omega)))
        clear hb
        obtain ⟨Bpx, hBpx⟩ : ∃ Bpx : Nat, Bpx = v54.heap.size := ⟨_, rfl⟩
        rw [← hBpx] at px_0 px_f0 px_1 px_f1 ⊢
        have hBlpx : Bpx ≤ v54.heap.size ∧ v54.heap.size ≤ Bpx := by omega
        clear hBpx
        refine hK.out _ _ ?_ (fun hHeld => ?_)
        · exact ⟨x0_0, x0_1, x1_0, x1_1⟩
        clear hK K
        try simp only [List.getElem_toArray, List.getElem_cons_succ, List.getElem_cons_zero, Act.put, List.setIfInBounds_toArray, List.set_cons_zero, List.set_cons_succ]
        refine wpAnyH_ready (rs := [11]) (by kernel_rfl) (by simp) ?_
        refine AllReadyH.cons rfl (fun K hK => ?_) AllReadyH.nil
        clear hHeld
        go_simp
        refine (HCL.out Bpb v55 HBh55.out pb_0 pb_1 (by omega)).mono ?_
        rintro e v56 ⟨p4, q4, rfl, ho, hb⟩
        have sz56 : v55.heap.size ≤ v56.heap.size := hb.size
        replace f2_0 := fro_keep hb x2_0 f2_0
        replace f2_1 := fro_keep hb x2_1 f2_1
        replace pb_f0 := fro_keep hb pb_0 pb_f0
        replace pb_f1 := fro_keep hb pb_1 pb_f1
        replace pa_f0 := fro_keep hb pa_0 pa_f0
        replace pa_f1 := fro_keep hb pa_1 pa_f1
        replace px_f0 := fro_keep hb px_0 px_f0
        replace px_f1 := fro_keep hb px_1 px_f1
        replace x0_0 := cell_keep hb x0_0
        replace x0_1 := cell_keep hb x0_1
        replace x1_0 := cell_keep hb x1_0
        replace x1_1 := cell_keep hb x1_1
        replace x2_0 := cell_keep hb x2_0
        replace x2_1 := cell_keep hb x2_1
        replace pb_0 := cell_keep hb pb_0
        replace pb_1 := cell_keep hb pb_1
        replace pa_0 := cell_keep hb pa_0
        replace pa_1 := cell_keep hb pa_1
        replace px_0 := cell_keep hb px_0
        replace px_1 := cell_keep hb px_1
        replace HOR := Lib.hid (HOR.out.below hb)
        have HBh56 := Lib.hid (HBh55.out.trans (hb.mono (by have := HBh55.out.size; omega)))
        clear hb
        have HOL := Lib.hid ho
        clear ho
        refine hK.out _ _ ?_ (fun hHeld => ?_)
        · exact ⟨x0_0, x0_1, x1_0, x1_1⟩
        clear hK K
        try simp only [List.getElem_toArray, List.getElem_cons_succ, List.getElem_cons_zero, Act.put, List.setIfInBounds_toArray, List.set_cons_zero, List.set_cons_succ]
        refine wpAnyH_take (i := 12) (v := ?_) rfl (by kernel_rfl) (by kernel_rfl) (by kernel_rfl) (fun _ _ _ h => h) (Or.inl ⟨by rfl, ?_⟩) (by assumption) ?_
        rotate_left
        · intro w9 hSw; (try dsimp only at hSw); go_simp; try with_reducible rfl
        try simp only [List.getElem_toArray, List.getElem_cons_succ, List.getElem_cons_zero, Act.put, List.setIfInBounds_toArray, List.set_cons_zero, List.set_cons_succ]
        refine wpAnyH_ready (rs := [14]) (by kernel_rfl) (by simp) ?_
        refine AllReadyH.cons rfl (fun K hK => ?_) AllReadyH.nil
        clear hHeld
        go_simp
        have hg : v56.grownBy ((v56.setCell ⟨Bpx, 0, none⟩ (.slice p3 R.length q3)).setCell ⟨Bpx, 1, none⟩ (.slice p4 Z.length q4)) (some (Bpx)) := grown_trans (grown_set v56 (Bpx) 0 (.slice p3 R.length q3)) (grown_set _ (Bpx) 1 (.slice p4 Z.length q4))
        have nx0 : ((v56.setCell ⟨Bpx, 0, none⟩ (.slice p3 R.length q3)).setCell ⟨Bpx, 1, none⟩ (.slice p4 Z.length q4)).cell? ⟨Bpx, 0, none⟩ = some (.slice p3 R.length q3) := (World.cell?_setCell_other _ _ _ _ (by simp)).trans (World.cell?_setCell_same _ _ _ px_0)
        have nf0 : ((v56.setCell ⟨Bpx, 0, none⟩ (.slice p3 R.length q3)).setCell ⟨Bpx, 1, none⟩ (.slice p4 Z.length q4)).frozen? ⟨Bpx, 0, none⟩ = false := by simp only [World.frozen?_setCell]; exact px_f0
        have nx1 : ((v56.setCell ⟨Bpx, 0, none⟩ (.slice p3 R.length q3)).setCell ⟨Bpx, 1, none⟩ (.slice p4 Z.length q4)).cell? ⟨Bpx, 1, none⟩ = some (.slice p4 Z.length q4) := World.cell?_setCell_same _ _ _ ((World.cell?_setCell_other _ _ _ _ (by simp)).trans px_1)
        have nf1 : ((v56.setCell ⟨Bpx, 0, none⟩ (.slice p3 R.length q3)).setCell ⟨Bpx, 1, none⟩ (.slice p4 Z.length q4)).frozen? ⟨Bpx, 1, none⟩ = false := by simp only [World.frozen?_setCell]; exact px_f1
        clear px_0 px_f0 px_1 px_f1
        generalize hwn : ((v56.setCell ⟨Bpx, 0, none⟩ (.slice p3 R.length q3)).setCell ⟨Bpx, 1, none⟩ (.slice p4 Z.length q4)) = v57 at *
        clear hwn
        have sz57 : v56.heap.size ≤ v57.heap.size := hg.size
        replace f2_0 := fro_grow hg x2_0 f2_0 (fun g e => by (have e2 : Bpx = g := by simpa using e); omega)
        replace f2_1 := fro_grow hg x2_1 f2_1 (fun g e => by (have e2 : Bpx = g := by simpa using e); omega)
        replace pb_f0 := fro_grow hg pb_0 pb_f0 (fun g e => by (have e2 : Bpx = g := by simpa using e); omega)
        replace pb_f1 := fro_grow hg pb_1 pb_f1 (fun g e => by (have e2 : Bpx = g := by simpa using e); omega)
        replace pa_f0 := fro_grow hg pa_0 pa_f0 (fun g e => by (have e2 : Bpx = g := by simpa using e); omega)
        replace pa_f1 := fro_grow hg pa_1 pa_f1 (fun g e => by (have e2 : Bpx = g := by simpa using e); omega)
        replace x0_0 := cell_grow hg x0_0 (fun g e => by (have e2 : Bpx = g := by simpa using e); omega)
        replace x0_1 := cell_grow hg x0_1 (fun g e => by (have e2 : Bpx = g := by simpa using e); omega)
        replace x1_0 := cell_grow hg x1_0 (fun g e => by (have e2 : Bpx = g := by simpa using e); omega)
        replace x1_1 := cell_grow hg x1_1 (fun g e => by (have e2 : Bpx = g := by simpa using e); omega)
        replace x2_0 := cell_grow hg x2_0 (fun g e => by (have e2 : Bpx = g := by simpa using e); omega)
        replace x2_1 := cell_grow hg x2_1 (fun g e => by (have e2 : Bpx = g := by simpa using e); omega)
        replace pb_0 := cell_grow hg pb_0 (fun g e => by (have e2 : Bpx = g := by simpa using e); omega)
        replace pb_1 := cell_grow hg pb_1 (fun g e => by (have e2 : Bpx = g := by simpa using e); omega)
        replace pa_0 := cell_grow hg pa_0 (fun g e => by (have e2 : Bpx = g := by simpa using e); omega)
        replace pa_1 := cell_grow hg pa_1 (fun g e => by (have e2 : Bpx = g := by simpa using e); omega)
        replace HOR := Lib.hid (own_grow hg HOR.out (fun g e => by (have e2 : Bpx = g := by simpa using e); omega))
        replace HOL := Lib.hid (own_grow hg HOL.out (fun g e => by (have e2 : Bpx = g := by simpa using e); omega))
        have HBh57 := Lib.hid (HBh56.out.grown hg (by have := HBh56.out.size; omega) (fun g e => by (have e2 : Bpx = g := by simpa using e); omega))
        have px_0 := nx0
        have px_f0 := nf0
        have px_1 := nx1
        have px_f1 := nf1
        clear hg nx0 nf0 nx1 nf1
        refine hK.out _ _ ?_ (fun hHeld => ?_)
        · exact ⟨x0_0, x0_1, x1_0, x1_1⟩
        clear hK K
        try simp only [List.getElem_toArray, List.getElem_cons_succ, List.getElem_cons_zero, Act.put, List.setIfInBounds_toArray, List.set_cons_zero, List.set_cons_succ]
        refine wpAnyH_done (by kernel_rfl) ?_ _
        refine NoPanic.normal ?_
        clear hHeld
        have hg9 := HRD.out v57 _ _ _ _ HOR.out HBh57.out
        have hi9 := HZD.out v57 _ _ _ _ HOL.out
        go_wp2_with fail
        refine (HCHG.out _ _ _ _ _ hg9 hi9).mono ?_
        rintro e va ⟨pv, lv, rfl, ho, hb⟩
        obtain ⟨p5, q5, rfl, hg5, _, _⟩ := ho.grid.slice
        obtain ⟨p6, q6, rfl, hi6, _, _⟩ := ho.ints.slice
        have sza : v57.heap.size ≤ va.heap.size := hb.size
        replace x2_0 := cell_below hb x2_0 (by omega)
        replace x2_1 := cell_below hb x2_1 (by omega)
        replace f2_0 := fro_below hb f2_0 (by omega)
        replace f2_1 := fro_below hb f2_1 (by omega)
        have HOS := Lib.hid ho
        have HBA := Lib.hid (HBh57.out.trans (hb.mono (by omega)))
        have HG5 := Lib.hid hg5
        have HI5 := Lib.hid hi6
        clear ho hb hg5 hi6 hg9 hi9
        go_wp2_with fail
        refine (HCK.out _ _ _ _ _ HG5.out HI5.out).mono ?_
        rintro e vb ⟨rfl, hb⟩
        have szb : va.heap.size ≤ vb.heap.size := hb.size
        replace x2_0 := cell_below hb x2_0 (by omega)
        replace x2_1 := cell_below hb x2_1 (by omega)
        replace f2_0 := fro_below hb f2_0 (by omega)
        replace f2_1 := fro_below hb f2_1 (by omega)
        have HOT := Lib.hid (HOS.out.below hb)
        have HBB := Lib.hid (HBA.out.trans (hb.mono (by omega)))
        clear hb
        go_wp2_with fail
        refine bodyPost_ret (v := .tuple #[.agg #[.slice p5 R.length q5, .slice p6 Z.length q6], .bool true]) (by simp [results, Try.results33, go_sem, x2_0, x2_1]) rfl ⟨_, _, rfl, ?_, ?_⟩
        · simp only [size_set]; exact ((HOT.out.set (by simp; omega) _).set (by simp; omega) _).mono (by omega) (by omega)
        · exact (HBB.out.setCell (by simp; omega) _).setCell (by simp; omega) _
      refine AllReadyH.cons rfl (fun K hK => ?_) AllReadyH.nil
      clear hHeld
      go_simp
      have px_0 : (v53.alloc (.cells #[.slice none 0 0, .slice none 0 0] 56)).cell? ⟨v53.heap.size, 0, none⟩ = some (.slice none 0 0) := cell_new _ _ _ rfl rfl
      have px_f0 : (v53.alloc (.cells #[.slice none 0 0, .slice none 0 0] 56)).frozen? ⟨v53.heap.size, 0, none⟩ = false := fro_new _ _ _ rfl
      have px_1 : (v53.alloc (.cells #[.slice none 0 0, .slice none 0 0] 56)).cell? ⟨v53.heap.size, 1, none⟩ = some (.slice none 0 0) := cell_new _ _ _ rfl rfl
      have px_f1 : (v53.alloc (.cells #[.slice none 0 0, .slice none 0 0] 56)).frozen? ⟨v53.heap.size, 1, none⟩ = false := fro_new _ _ _ rfl
      have hb := below_alloc v53 (.cells #[.slice none 0 0, .slice none 0 0] 56)
      have lt_px := size_alloc' v53 (.cells #[.slice none 0 0, .slice none 0 0] 56)
      generalize hwn : v53.alloc (.cells #[.slice none 0 0, .slice none 0 0] 56) = v54 at *
      clear hwn
      have sz54 : v53.heap.size ≤ v54.heap.size := hb.size
      replace f2_0 := fro_keep hb x2_0 f2_0
      replace f2_1 := fro_keep hb x2_1 f2_1
      replace pb_f0 := fro_keep hb pb_0 pb_f0
      replace pb_f1 := fro_keep hb pb_1 pb_f1
      replace pa_f0 := fro_keep hb pa_0 pa_f0
      replace pa_f1 := fro_keep hb pa_1 pa_f1
      replace x0_0 := cell_keep hb x0_0
      replace x0_1 := cell_keep hb x0_1
      replace x1_0 := cell_keep hb x1_0
      replace x1_1 := cell_keep hb x1_1
      replace x2_0 := cell_keep hb x2_0
      replace x2_1 := cell_keep hb x2_1
      replace pb_0 := cell_keep hb pb_0
      replace pb_1 := cell_keep hb pb_1
      replace pa_0 := cell_keep hb pa_0
      replace pa_1 := cell_keep hb pa_1
      have HBh54 := Lib.hid (HBh53.out.trans (hb.mono (by have := HBh53.out.size; omega)))
      clear hb
      obtain ⟨Bpx, hBpx⟩ : ∃ Bpx : Nat, Bpx = v53.heap.size := ⟨_, rfl⟩
      rw [← hBpx] at px_0 px_f0 px_1 px_f1 ⊢
      have hBlpx : Bpx ≤ v53.heap.size ∧ v53.heap.size ≤ Bpx := by omega
      clear hBpx
      refine hK.out _ _ ?_ (fun hHeld => ?_)
      · exact ⟨x0_0, x0_1, x1_0, x1_1⟩
      clear hK K
      try simp only [List.getElem_toArray, List.getElem_cons_succ, List.getElem_cons_zero, Act.put, List.setIfInBounds_toArray, List.set_cons_zero, List.set_cons_succ]
      refine wpAnyH_ready (rs := [5]) (by kernel_rfl) (by simp) ?_
      refine AllReadyH.cons rfl (fun K hK => ?_) AllReadyH.nil
      clear hHeld
      go_simp
      refine (HCR.out Bpa v54 HBh54.out pa_0 pa_1 (by omega)).mono ?_
      rintro e v55 ⟨p3, q3, rfl, ho, hb⟩
      have sz55 : v54.heap.size ≤ v55.heap.size := hb.size
      replace f2_0 := fro_keep hb x2_0 f2_0
      replace f2_1 := fro_keep hb x2_1 f2_1
      replace pb_f0 := fro_keep hb pb_0 pb_f0
      replace pb_f1 := fro_keep hb pb_1 pb_f1
      replace pa_f0 := fro_keep hb pa_0 pa_f0
      replace pa_f1 := fro_keep hb pa_1 pa_f1
      replace px_f0 := fro_keep hb px_0 px_f0
      replace px_f1 := fro_keep hb px_1 px_f1
      replace x0_0 := cell_keep hb x0_0
      replace x0_1 := cell_keep hb x0_1
      replace x1_0 := cell_keep hb x1_0
      replace x1_1 := cell_keep hb x1_1
      replace x2_0 := cell_keep hb x2_0
      replace x2_1 := cell_keep hb x2_1
      replace pb_0 := cell_keep hb pb_0
      replace pb_1 := cell_keep hb pb_1
      replace pa_0 := cell_keep hb pa_0
      replace pa_1 := cell_keep hb pa_1
      replace px_0 := cell_keep hb px_0
      replace px_1 := cell_keep hb px_1
      have HBh55 := Lib.hid (HBh54.out.trans (hb.mono (by have := HBh54.out.size; omega)))
      clear hb
      have HOR := Lib.hid ho
      clear ho
      refine hK.out _ _ ?_ (fun hHeld => ?_)
      · exact ⟨x0_0, x0_1, x1_0, x1_1⟩
      clear hK K
      try simp only [List.getElem_toArray, List.getElem_cons_succ, List.getElem_cons_zero, Act.put, List.setIfInBounds_toArray, List.set_cons_zero, List.set_cons_succ]
      refine wpAnyH_ready (rs := [11]) (by kernel_rfl) (by simp) ?_
      refine AllReadyH.cons rfl (fun K hK => ?_) AllReadyH.nil
      clear hHeld
      go_simp
      refine (HCL.out Bpb v55 HBh55.out pb_0 pb_1 (by omega)).mono ?_
      rintro e v56 ⟨p4, q4, rfl, ho, hb⟩
      have sz56 : v55.heap.size ≤ v56.heap.size := hb.size
      replace f2_0 := fro_keep hb x2_0 f2_0
      replace f2_1 := fro_keep hb x2_1 f2_1
      replace pb_f0 := fro_keep hb pb_0 pb_f0
      replace pb_f1 := fro_keep hb pb_1 pb_f1
      replace pa_f0 := fro_keep hb pa_0 pa_f0
      replace pa_f1 := fro_keep hb pa_1 pa_f1
      replace px_f0 := fro_keep hb px_0 px_f0
      replace px_f1 := fro_keep hb px_1 px_f1
      replace x0_0 := cell_keep hb x0_0
      replace x0_1 := cell_keep hb x0_1
      replace x1_0 := cell_keep hb x1_0
      replace x1_1 := cell_keep hb x1_1
      replace x2_0 := cell_keep hb x2_0
      replace x2_1 := cell_keep hb x2_1
      replace pb_0 := cell_keep hb pb_0
      replace pb_1 := cell_keep hb pb_1
      replace pa_0 := cell_keep hb pa_0
      replace pa_1 := cell_keep hb pa_1
      replace px_0 := cell_keep hb px_0
      replace px_1 := cell_keep hb px_1
      replace HOR := Lib.hid (HOR.out.below hb)
      have HBh56 := Lib.hid (HBh55.out.trans (hb.mono (by have := HBh55.out.size; omega)))
      clear hb
      have HOL := Lib.hid ho
      clear ho
      refine hK.out _ _ ?_ (fun hHeld => ?_)
      · exact ⟨x0_0, x0_1, x1_0, x1_1⟩
      clear hK K
      try simp only [List.getElem_toArray, List.getElem_cons_succ, List.getElem_cons_zero, Act.put, List.setIfInBounds_toArray, List.set_cons_zero, List.set_cons_succ]
      refine wpAnyH_take (i := 12) (v := ?_) rfl (by kernel_rfl) (by kernel_rfl) (by kernel_rfl) (fun _ _ _ h => h) (Or.inl ⟨by rfl, ?_⟩) (by assumption) ?_
      rotate_left
      · intro w9 hSw; (try dsimp only at hSw); go_simp; try with_reducible rfl
      try simp only [List.getElem_toArray, List.getElem_cons_succ, List.getElem_cons_zero, Act.put, List.setIfInBounds_toArray, List.set_cons_zero, List.set_cons_succ]
      refine wpAnyH_ready (rs := [14]) (by kernel_rfl) (by simp) ?_
      refine AllReadyH.cons rfl (fun K hK => ?_) AllReadyH.nil
      clear hHeld
      go_simp
      have hg : v56.grownBy ((v56.setCell ⟨Bpx, 0, none⟩ (.slice p3 R.length q3)).setCell ⟨Bpx, 1, none⟩ (.slice p4 Z.length q4)) (some (Bpx)) := grown_trans (grown_set v56 (Bpx) 0 (.slice p3 R.length q3)) (grown_set _ (Bpx) 1 (.slice p4 Z.length q4))
      have nx0 : ((v56.setCell ⟨Bpx, 0, none⟩ (.slice p3 R.length q3)).setCell ⟨Bpx, 1, none⟩ (.slice p4 Z.length q4)).cell? ⟨Bpx, 0, none⟩ = some (.slice p3 R.length q3) := (World.cell?_setCell_other _ _ _ _ (by simp)).trans (World.cell?_setCell_same _ _ _ px_0)
      have nf0 : ((v56.setCell ⟨Bpx, 0, none⟩ (.slice p3 R.length q3)).setCell ⟨Bpx, 1, none⟩ (.slice p4 Z.length q4)).frozen? ⟨Bpx, 0, none⟩ = false := by simp only [World.frozen?_setCell]; exact px_f0
      have nx1 : ((v56.setCell ⟨Bpx, 0, none⟩ (.slice p3 R.length q3)).setCell ⟨Bpx, 1, none⟩ (.slice p4 Z.length q4)).cell? ⟨Bpx, 1, none⟩ = some (.slice p4 Z.length q4) := World.cell?_setCell_same _ _ _ ((World.cell?_setCell_other _ _ _ _ (by simp)).trans px_1)
      have nf1 : ((v56.setCell ⟨Bpx, 0, none⟩ (.slice p3 R.length q3)).setCell ⟨Bpx, 1, none⟩ (.slice p4 Z.length q4)).frozen? ⟨Bpx, 1, none⟩ = false := by simp only [World.frozen?_setCell]; exact px_f1
      clear px_0 px_f0 px_1 px_f1
      generalize hwn : ((v56.setCell ⟨Bpx, 0, none⟩ (.slice p3 R.length q3)).setCell ⟨Bpx, 1, none⟩ (.slice p4 Z.length q4)) = v57 at *
      clear hwn
      have sz57 : v56.heap.size ≤ v57.heap.size := hg.size
      replace f2_0 := fro_grow hg x2_0 f2_0 (fun g e => by (have e2 : Bpx = g := by simpa using e); omega)
      replace f2_1 := fro_grow hg x2_1 f2_1 (fun g e => by (have e2 : Bpx = g := by simpa using e); omega)
      replace pb_f0 := fro_grow hg pb_0 pb_f0 (fun g e => by (have e2 : Bpx = g := by simpa using e); omega)
      replace pb_f1 := fro_grow hg pb_1 pb_f1 (fun g e => by (have e2 : Bpx = g := by simpa using e); omega)
      replace pa_f0 := fro_grow hg pa_0 pa_f0 (fun g e => by (have e2 : Bpx = g := by simpa using e); omega)
      replace pa_f1 := fro_grow hg pa_1 pa_f1 (fun g e => by (have e2 : Bpx = g := by simpa using e); omega)
      replace x0_0 := cell_grow hg x0_0 (fun g e => by (have e2 : Bpx = g := by simpa using e); omega)
      replace x0_1 := cell_grow hg x0_1 (fun g e => by (have e2 : Bpx = g := by simpa using e); omega)
      replace x1_0 := cell_grow hg x1_0 (fun g e => by (have e2 : Bpx = g := by simpa using e); omega)
      replace x1_1 := cell_grow hg x1_1 (fun g e => by (have e2 : Bpx = g := by simpa using e); omega)
      replace x2_0 := cell_grow hg x2_0 (fun g e => by (have e2 : Bpx = g := by simpa using e); omega)
      replace x2_1 := cell_grow hg x2_1 (fun g e => by (have e2 : Bpx = g := by simpa using e); omega)
      replace pb_0 := cell_grow hg pb_0 (fun g e => by (have e2 : Bpx = g := by simpa using e); omega)
      replace pb_1 := cell_grow hg pb_1 (fun g e => by (have e2 : Bpx = g := by simpa using e); omega)
      replace pa_0 := cell_grow hg pa_0 (fun g e => by (have e2 : Bpx = g := by simpa using e); omega)
      replace pa_1 := cell_grow hg pa_1 (fun g e => by (have e2 : Bpx = g := by simpa using e); omega)
      replace HOR := Lib.hid (own_grow hg HOR.out (fun g e => by (have e2 : Bpx = g := by simpa using e); omega))
      replace HOL := Lib.hid (own_grow hg HOL.out (fun g e => by (have e2 : Bpx = g := by simpa using e); omega))
      have HBh57 := Lib.hid (HBh56.out.grown hg (by have := HBh56.out.size; omega) (fun g e => by (have e2 : Bpx = g := by simpa using e); omega))
      have px_0 := nx0
      have px_f0 := nf0
      have px_1 := nx1
      have px_f1 := nf1
      clear hg nx0 nf0 nx1 nf1
      refine hK.out _ _ ?_ (fun hHeld => ?_)
      · exact ⟨x0_0, x0_1, x1_0, x1_1⟩
      clear hK K
      try simp only [List.getElem_toArray, List.getElem_cons_succ, List.getElem_cons_zero, Act.put, List.setIfInBounds_toArray, List.set_cons_zero, List.set_cons_succ]
      refine wpAnyH_done (by kernel_rfl) ?_ _
      refine NoPanic.normal ?_
      clear hHeld
      have hg9 := HRD.out v57 _ _ _ _ HOR.out HBh57.out
      have hi9 := HZD.out v57 _ _ _ _ HOL.out
      go_wp2_with fail
      refine (HCHG.out _ _ _ _ _ hg9 hi9).mono ?_
      rintro e va ⟨pv, lv, rfl, ho, hb⟩
      obtain ⟨p5, q5, rfl, hg5, _, _⟩ := ho.grid.slice
      obtain ⟨p6, q6, rfl, hi6, _, _⟩ := ho.ints.slice
      have sza : v57.heap.size ≤ va.heap.size := hb.size
      replace x2_0 := cell_below hb x2_0 (by omega)
      replace x2_1 := cell_below hb x2_1 (by omega)
      replace f2_0 := fro_below hb f2_0 (by omega)
      replace f2_1 := fro_below hb f2_1 (by omega)
      have HOS := Lib.hid ho
      have HBA := Lib.hid (HBh57.out.trans (hb.mono (by omega)))
      have HG5 := Lib.hid hg5
      have HI5 := Lib.hid hi6
      clear ho hb hg5 hi6 hg9 hi9
      go_wp2_with fail
      refine (HCK.out _ _ _ _ _ HG5.out HI5.out).mono ?_
      rintro e vb ⟨rfl, hb⟩
      have szb : va.heap.size ≤ vb.heap.size := hb.size
      replace x2_0 := cell_below hb x2_0 (by omega)
      replace x2_1 := cell_below hb x2_1 (by omega)
      replace f2_0 := fro_below hb f2_0 (by omega)
      replace f2_1 := fro_below hb f2_1 (by omega)
      have HOT := Lib.hid (HOS.out.below hb)
      have HBB := Lib.hid (HBA.out.trans (hb.mono (by omega)))
      clear hb
      go_wp2_with fail
      refine bodyPost_ret (v := .tuple #[.agg #[.slice p5 R.length q5, .slice p6 Z.length q6], .bool true]) (by simp [results, Try.results33, go_sem, x2_0, x2_1]) rfl ⟨_, _, rfl, ?_, ?_⟩
      · simp only [size_set]; exact ((HOT.out.set (by simp; omega) _).set (by simp; omega) _).mono (by omega) (by omega)
      · exact (HBB.out.setCell (by simp; omega) _).setCell (by simp; omega) _
    refine AllReadyH.cons rfl (fun K hK => ?_) AllReadyH.nil
    clear hHeld
    go_simp
    have px_0 : (v52.alloc (.cells #[.slice none 0 0, .slice none 0 0] 56)).cell? ⟨v52.heap.size, 0, none⟩ = some (.slice none 0 0) := cell_new _ _ _ rfl rfl
    have px_f0 : (v52.alloc (.cells #[.slice none 0 0, .slice none 0 0] 56)).frozen? ⟨v52.heap.size, 0, none⟩ = false := fro_new _ _ _ rfl
    have px_1 : (v52.alloc (.cells #[.slice none 0 0, .slice none 0 0] 56)).cell? ⟨v52.heap.size, 1, none⟩ = some (.slice none 0 0) := cell_new _ _ _ rfl rfl
    have px_f1 : (v52.alloc (.cells #[.slice none 0 0, .slice none 0 0] 56)).frozen? ⟨v52.heap.size, 1, none⟩ = false := fro_new _ _ _ rfl
    have hb := below_alloc v52 (.cells #[.slice none 0 0, .slice none 0 0] 56)
    have lt_px := size_alloc' v52 (.cells #[.slice none 0 0, .slice none 0 0] 56)
    generalize hwn : v52.alloc (.cells #[.slice none 0 0, .slice none 0 0] 56) = v53 at *
    clear hwn
    have sz53 : v52.heap.size ≤ v53.heap.size := hb.size
    replace f2_0 := fro_keep hb x2_0 f2_0
    replace f2_1 := fro_keep hb x2_1 f2_1
    replace pb_f0 := fro_keep hb pb_0 pb_f0
    replace pb_f1 := fro_keep hb pb_1 pb_f1
    replace x0_0 := cell_keep hb x0_0
    replace x0_1 := cell_keep hb x0_1
    replace x1_0 := cell_keep hb x1_0
    replace x1_1 := cell_keep hb x1_1
    replace x2_0 := cell_keep hb x2_0
    replace x2_1 := cell_keep hb x2_1
    replace pb_0 := cell_keep hb pb_0
    replace pb_1 := cell_keep hb pb_1
    have HBh53 := Lib.hid (HBh52.out.trans (hb.mono (by have := HBh52.out.size; omega)))
    clear hb
    obtain ⟨Bpx, hBpx⟩ : ∃ Bpx : Nat, Bpx = v52.heap.size := ⟨_, rfl⟩
    rw [← hBpx] at px_0 px_f0 px_1 px_f1 ⊢
    have hBlpx : Bpx ≤ v52.heap.size ∧ v52.heap.size ≤ Bpx := by omega
    clear hBpx
    refine hK.out _ _ ?_ (fun hHeld => ?_)
    · exact ⟨x0_0, x0_1, x1_0, x1_1⟩
    clear hK K
    try simp only [List.getElem_toArray, List.getElem_cons_succ, List.getElem_cons_zero, Act.put, List.setIfInBounds_toArray, List.set_cons_zero, List.set_cons_succ]
    refine wpAnyH_ready (rs := [4]) (by kernel_rfl) (by simp) ?_
    refine AllReadyH.cons rfl (fun K hK => ?_) AllReadyH.nil
    clear hHeld
    go_simp
    have pa_0 : (v53.alloc (.cells #[.slice a rows.length c, .slice b rows1.length d] 28)).cell? ⟨v53.heap.size, 0, none⟩ = some (.slice a rows.length c) := cell_new _ _ _ rfl rfl
    have pa_f0 : (v53.alloc (.cells #[.slice a rows.length c, .slice b rows1.length d] 28)).frozen? ⟨v53.heap.size, 0, none⟩ = false := fro_new _ _ _ rfl
    have pa_1 : (v53.alloc (.cells #[.slice a rows.length c, .slice b rows1.length d] 28)).cell? ⟨v53.heap.size, 1, none⟩ = some (.slice b rows1.length d) := cell_new _ _ _ rfl rfl
    have pa_f1 : (v53.alloc (.cells #[.slice a rows.length c, .slice b rows1.length d] 28)).frozen? ⟨v53.heap.size, 1, none⟩ = false := fro_new _ _ _ rfl
    have hb := below_alloc v53 (.cells #[.slice a rows.length c, .slice b rows1.length d] 28)
    have lt_pa := size_alloc' v53 (.cells #[.slice a rows.length c, .slice b rows1.length d] 28)
    generalize hwn : v53.alloc (.cells #[.slice a rows.length c, .slice b rows1.length d] 28) = v54 at *
    clear hwn
    have sz54 : v53.heap.size ≤ v54.heap.size := hb.size
    replace f2_0 := fro_keep hb x2_0 f2_0
    replace f2_1 := fro_keep hb x2_1 f2_1
    replace pb_f0 := fro_keep hb pb_0 pb_f0
    replace pb_f1 := fro_keep hb pb_1 pb_f1
    replace px_f0 := fro_keep hb px_0 px_f0
    replace px_f1 := fro_keep hb px_1 px_f1
    replace x0_0 := cell_keep hb x0_0
    replace x0_1 := cell_keep hb x0_1
    replace x1_0 := cell_keep hb x1_0
    replace x1_1 := cell_keep hb x1_1
    replace x2_0 := cell_keep hb x2_0
    replace x2_1 := cell_keep hb x2_1
    replace pb_0 := cell_keep hb pb_0
    replace pb_1 := cell_keep hb pb_1
    replace px_0 := cell_keep hb px_0
    replace px_1 := cell_keep hb px_1
    have HBh54 := Lib.hid (HBh53.out.trans (hb.mono (by have := HBh53.out.size; omega)))
    clear hb
    obtain ⟨Bpa, hBpa⟩ : ∃ Bpa : Nat, Bpa = v53.heap.size := ⟨_, rfl⟩
    rw [← hBpa] at pa_0 pa_f0 pa_1 pa_f1 ⊢
    have hBlpa : Bpa ≤ v53.heap.size ∧ v53.heap.size ≤ Bpa := by omega
    clear hBpa
    refine hK.out _ _ ?_ (fun hHeld => ?_)
    · exact ⟨x0_0, x0_1, x1_0, x1_1⟩
    clear hK K
    try simp only [List.getElem_toArray, List.getElem_cons_succ, List.getElem_cons_zero, Act.put, List.setIfInBounds_toArray, List.set_cons_zero, List.set_cons_succ]
    refine wpAnyH_ready (rs := [5]) (by kernel_rfl) (by simp) ?_
    refine AllReadyH.cons rfl (fun K hK => ?_) AllReadyH.nil
    clear hHeld
    go_simp
    refine (HCR.out Bpa v54 HBh54.out pa_0 pa_1 (by omega)).mono ?_
    rintro e v55 ⟨p3, q3, rfl, ho, hb⟩
    have sz55 : v54.heap.size ≤ v55.heap.size := hb.size
    replace f2_0 := fro_keep hb x2_0 f2_0
    replace f2_1 := fro_keep hb x2_1 f2_1
    replace pb_f0 := fro_keep hb pb_0 pb_f0
    replace pb_f1 := fro_keep hb pb_1 pb_f1
    replace px_f0 := fro_keep hb px_0 px_f0
    replace px_f1 := fro_keep hb px_1 px_f1
    replace pa_f0 := fro_keep hb pa_0 pa_f0
    replace pa_f1 := fro_keep hb pa_1 pa_f1
    replace x0_0 := cell_keep hb x0_0
    replace x0_1 := cell_keep hb x0_1
    replace x1_0 := cell_keep hb x1_0
    replace x1_1 := cell_keep hb x1_1
    replace x2_0 := cell_keep hb x2_0
    replace x2_1 := cell_keep hb x2_1
    replace pb_0 := cell_keep hb pb_0
    replace pb_1 := cell_keep hb pb_1
    replace px_0 := cell_keep hb px_0
    replace px_1 := cell_keep hb px_1
    replace pa_0 := cell_keep hb pa_0
    replace pa_1 := cell_keep hb pa_1
    have HBh55 := Lib.hid (HBh54.out.trans (hb.mono (by have := HBh54.out.size; omega)))
    clear hb
    have HOR := Lib.hid ho
    clear ho
    refine hK.out _ _ ?_ (fun hHeld => ?_)
    · exact ⟨x0_0, x0_1, x1_0, x1_1⟩
    clear hK K
    try simp only [List.getElem_toArray, List.getElem_cons_succ, List.getElem_cons_zero, Act.put, List.setIfInBounds_toArray, List.set_cons_zero, List.set_cons_succ]
    refine wpAnyH_ready (rs := [11]) (by kernel_rfl) (by simp) ?_
    refine AllReadyH.cons rfl (fun K hK => ?_) AllReadyH.nil
    clear hHeld
    go_simp
    refine (HCL.out Bpb v55 HBh55.out pb_0 pb_1 (by omega)).mono ?_
    rintro e v56 ⟨p4, q4, rfl, ho, hb⟩
    have sz56 : v55.heap.size ≤ v56.heap.size := hb.size
    replace f2_0 := fro_keep hb x2_0 f2_0
    replace f2_1 := fro_keep hb x2_1 f2_1
    replace pb_f0 := fro_keep hb pb_0 pb_f0
    replace pb_f1 := fro_keep hb pb_1 pb_f1
    replace px_f0 := fro_keep hb px_0 px_f0
    replace px_f1 := fro_keep hb px_1 px_f1
    replace pa_f0 := fro_keep hb pa_0 pa_f0
    replace pa_f1 := fro_keep hb pa_1 pa_f1
    replace x0_0 := cell_keep hb x0_0
    replace x0_1 := cell_keep hb x0_1
    replace x1_0 := cell_keep hb x1_0
    replace x1_1 := cell_keep hb x1_1
    replace x2_0 := cell_keep hb x2_0
    replace x2_1 := cell_keep hb x2_1
    replace pb_0 := cell_keep hb pb_0
    replace pb_1 := cell_keep hb pb_1
    replace px_0 := cell_keep hb px_0
    replace px_1 := cell_keep hb px_1
    replace pa_0 := cell_keep hb pa_0
    replace pa_1 := cell_keep hb pa_1
    replace HOR := Lib.hid (HOR.out.below hb)
    have HBh56 := Lib.hid (HBh55.out.trans (hb.mono (by have := HBh55.out.size; omega)))
    clear hb
    have HOL := Lib.hid ho
    clear ho
    refine hK.out _ _ ?_ (fun hHeld => ?_)
    · exact ⟨x0_0, x0_1, x1_0, x1_1⟩
    clear hK K
    try simp only [List.getElem_toArray, List.getElem_cons_succ, List.getElem_cons_zero, Act.put, List.setIfInBounds_toArray, List.set_cons_zero, List.set_cons_succ]
    refine wpAnyH_take (i := 12) (v := ?_) rfl (by kernel_rfl) (by kernel_rfl) (by kernel_rfl) (fun _ _ _ h => h) (Or.inl ⟨by rfl, ?_⟩) (by assumption) ?_
    rotate_left
    · intro w9 hSw; (try dsimp only at hSw); go_simp; try with_reducible rfl
    try simp only [List.getElem_toArray, List.getElem_cons_succ, List.getElem_cons_zero, Act.put, List.setIfInBounds_toArray, List.set_cons_zero, List.set_cons_succ]
    refine wpAnyH_ready (rs := [14]) (by kernel_rfl) (by simp) ?_
    refine AllReadyH.cons rfl (fun K hK => ?_) AllReadyH.nil
    clear hHeld
    go_simp
    have hg : v56.grownBy ((v56.setCell ⟨Bpx, 0, none⟩ (.slice p3 R.length q3)).setCell ⟨Bpx, 1, none⟩ (.slice p4 Z.length q4)) (some (Bpx)) := grown_trans (grown_set v56 (Bpx) 0 (.slice p3 R.length q3)) (grown_set _ (Bpx) 1 (.slice p4 Z.length q4))
    have nx0 : ((v56.setCell ⟨Bpx, 0, none⟩ (.slice p3 R.length q3)).setCell ⟨Bpx, 1, none⟩ (.slice p4 Z.length q4)).cell? ⟨Bpx, 0, none⟩ = some (.slice p3 R.length q3) := (World.cell?_setCell_other _ _ _ _ (by simp)).trans (World.cell?_setCell_same _ _ _ px_0)
    have nf0 : ((v56.setCell ⟨Bpx, 0, none⟩ (.slice p3 R.length q3)).setCell ⟨Bpx, 1, none⟩ (.slice p4 Z.length q4)).frozen? ⟨Bpx, 0, none⟩ = false := by simp only [World.frozen?_setCell]; exact px_f0
    have nx1 : ((v56.setCell ⟨Bpx, 0, none⟩ (.slice p3 R.length q3)).setCell ⟨Bpx, 1, none⟩ (.slice p4 Z.length q4)).cell? ⟨Bpx, 1, none⟩ = some (.slice p4 Z.length q4) := World.cell?_setCell_same _ _ _ ((World.cell?_setCell_other _ _ _ _ (by simp)).trans px_1)
    have nf1 : ((v56.setCell ⟨Bpx, 0, none⟩ (.slice p3 R.length q3)).setCell ⟨Bpx, 1, none⟩ (.slice p4 Z.length q4)).frozen? ⟨Bpx, 1, none⟩ = false := by simp only [World.frozen?_setCell]; exact px_f1
    clear px_0 px_f0 px_1 px_f1
    generalize hwn : ((v56.setCell ⟨Bpx, 0, none⟩ (.slice p3 R.length q3)).setCell ⟨Bpx, 1, none⟩ (.slice p4 Z.length q4)) = v57 at *
    clear hwn
    have sz57 : v56.heap.size ≤ v57.heap.size := hg.size
    replace f2_0 := fro_grow hg x2_0 f2_0 (fun g e => by (have e2 : Bpx = g := by simpa using e); omega)
    replace f2_1 := fro_grow hg x2_1 f2_1 (fun g e => by (have e2 : Bpx = g := by simpa using e); omega)
    replace pb_f0 := fro_grow hg pb_0 pb_f0 (fun g e => by (have e2 : Bpx = g := by simpa using e); omega)
    replace pb_f1 := fro_grow hg pb_1 pb_f1 (fun g e => by (have e2 : Bpx = g := by simpa using e); omega)
    replace pa_f0 := fro_grow hg pa_0 pa_f0 (fun g e => by (have e2 : Bpx = g := by simpa using e); omega)
    replace pa_f1 := fro_grow hg pa_1 pa_f1 (fun g e => by (have e2 : Bpx = g := by simpa using e); omega)
    replace x0_0 := cell_grow hg x0_0 (fun g e => by (have e2 : Bpx = g := by simpa using e); omega)
    replace x0_1 := cell_grow hg x0_1 (fun g e => by (have e2 : Bpx = g := by simpa using e); omega)
    replace x1_0 := cell_grow hg x1_0 (fun g e => by (have e2 : Bpx = g := by simpa using e); omega)
    replace x1_1 := cell_grow hg x1_1 (fun g e => by (have e2 : Bpx = g := by simpa using e); omega)
    replace x2_0 := cell_grow hg x2_0 (fun g e => by (have e2 : Bpx = g := by simpa using e); omega)
    replace x2_1 := cell_grow hg x2_1 (fun g e => by (have e2 : Bpx = g := by simpa using e); omega)
    replace pb_0 := cell_grow hg pb_0 (fun g e => by (have e2 : Bpx = g := by simpa using e); omega)
    replace pb_1 := cell_grow hg pb_1 (fun g e => by (have e2 : Bpx = g := by simpa using e); omega)
    replace pa_0 := cell_grow hg pa_0 (fun g e => by (have e2 : Bpx = g := by simpa using e); omega)
    replace pa_1 := cell_grow hg pa_1 (fun g e => by (have e2 : Bpx = g := by simpa using e); omega)
    replace HOR := Lib.hid (own_grow hg HOR.out (fun g e => by (have e2 : Bpx = g := by simpa using e); omega))
    replace HOL := Lib.hid (own_grow hg HOL.out (fun g e => by (have e2 : Bpx = g := by simpa using e); omega))
    have HBh57 := Lib.hid (HBh56.out.grown hg (by have := HBh56.out.size; omega) (fun g e => by (have e2 : Bpx = g := by simpa using e); omega))
    have px_0 := nx0
    have px_f0 := nf0
    have px_1 := nx1
    have px_f1 := nf1
    clear hg nx0 nf0 nx1 nf1
    refine hK.out _ _ ?_ (fun hHeld => ?_)
    · exact ⟨x0_0, x0_1, x1_0, x1_1⟩
    clear hK K
    try simp only [List.getElem_toArray, List.getElem_cons_succ, List.getElem_cons_zero, Act.put, List.setIfInBounds_toArray, List.set_cons_zero, List.set_cons_succ]
    refine wpAnyH_done (by kernel_rfl) ?_ _
    refine NoPanic.normal ?_
    clear hHeld
    have hg9 := HRD.out v57 _ _ _ _ HOR.out HBh57.out
    have hi9 := HZD.out v57 _ _ _ _ HOL.out
    go_wp2_with fail
    refine (HCHG.out _ _ _ _ _ hg9 hi9).mono ?_
    rintro e va ⟨pv, lv, rfl, ho, hb⟩
    obtain ⟨p5, q5, rfl, hg5, _, _⟩ := ho.grid.slice
    obtain ⟨p6, q6, rfl, hi6, _, _⟩ := ho.ints.slice
    have sza : v57.heap.size ≤ va.heap.size := hb.size
    replace x2_0 := cell_below hb x2_0 (by omega)
    replace x2_1 := cell_below hb x2_1 (by omega)
    replace f2_0 := fro_below hb f2_0 (by omega)
    replace f2_1 := fro_below hb f2_1 (by omega)
    have HOS := Lib.hid ho
    have HBA := Lib.hid (HBh57.out.trans (hb.mono (by omega)))
    have HG5 := Lib.hid hg5
    have HI5 := Lib.hid hi6
    clear ho hb hg5 hi6 hg9 hi9
    go_wp2_with fail
    refine (HCK.out _ _ _ _ _ HG5.out HI5.out).mono ?_
    rintro e vb ⟨rfl, hb⟩
    have szb : va.heap.size ≤ vb.heap.size := hb.size
    replace x2_0 := cell_below hb x2_0 (by omega)
    replace x2_1 := cell_below hb x2_1 (by omega)
    replace f2_0 := fro_below hb f2_0 (by omega)
    replace f2_1 := fro_below hb f2_1 (by omega)
    have HOT := Lib.hid (HOS.out.below hb)
    have HBB := Lib.hid (HBA.out.trans (hb.mono (by omega)))
    clear hb
    go_wp2_with fail
    refine bodyPost_ret (v := .tuple #[.agg #[.slice p5 R.length q5, .slice p6 Z.length q6], .bool true]) (by simp [results, Try.results33, go_sem, x2_0, x2_1]) rfl ⟨_, _, rfl, ?_, ?_⟩
    · simp only [size_set]; exact ((HOT.out.set (by simp; omega) _).set (by simp; omega) _).mono (by omega) (by omega)
    · exact (HBB.out.setCell (by simp; omega) _).setCell (by simp; omega) _
  refine AllReadyH.cons rfl (fun K hK => ?_) AllReadyH.nil
  clear hHeld
  go_simp
  have px_0 : (v51.alloc (.cells #[.slice none 0 0, .slice none 0 0] 56)).cell? ⟨v51.heap.size, 0, none⟩ = some (.slice none 0 0) := cell_new _ _ _ rfl rfl
  have px_f0 : (v51.alloc (.cells #[.slice none 0 0, .slice none 0 0] 56)).frozen? ⟨v51.heap.size, 0, none⟩ = false := fro_new _ _ _ rfl
  have px_1 : (v51.alloc (.cells #[.slice none 0 0, .slice none 0 0] 56)).cell? ⟨v51.heap.size, 1, none⟩ = some (.slice none 0 0) := cell_new _ _ _ rfl rfl
  have px_f1 : (v51.alloc (.cells #[.slice none 0 0, .slice none 0 0] 56)).frozen? ⟨v51.heap.size, 1, none⟩ = false := fro_new _ _ _ rfl
  have hb := below_alloc v51 (.cells #[.slice none 0 0, .slice none 0 0] 56)
  have lt_px := size_alloc' v51 (.cells #[.slice none 0 0, .slice none 0 0] 56)
  generalize hwn : v51.alloc (.cells #[.slice none 0 0, .slice none 0 0] 56) = v52 at *
  clear hwn
  have sz52 : v51.heap.size ≤ v52.heap.size := hb.size
  replace f2_0 := fro_keep hb x2_0 f2_0
  replace f2_1 := fro_keep hb x2_1 f2_1
  replace x0_0 := cell_keep hb x0_0
  replace x0_1 := cell_keep hb x0_1
  replace x1_0 := cell_keep hb x1_0
  replace x1_1 := cell_keep hb x1_1
  replace x2_0 := cell_keep hb x2_0
  replace x2_1 := cell_keep hb x2_1
  have HBh52 := Lib.hid (HBh51.out.trans (hb.mono (by have := HBh51.out.size; omega)))
  clear hb
  obtain ⟨Bpx, hBpx⟩ : ∃ Bpx : Nat, Bpx = v51.heap.size := ⟨_, rfl⟩
  rw [← hBpx] at px_0 px_f0 px_1 px_f1 ⊢
  have hBlpx : Bpx ≤ v51.heap.size ∧ v51.heap.size ≤ Bpx := by omega
  clear hBpx
  refine hK.out _ _ ?_ (fun hHeld => ?_)
  · exact ⟨x0_0, x0_1, x1_0, x1_1⟩
  clear hK K
  try simp only [List.getElem_toArray, List.getElem_cons_succ, List.getElem_cons_zero, Act.put, List.setIfInBounds_toArray, List.set_cons_zero, List.set_cons_succ]
  refine wpAnyH_ready (rs := [4, 10]) (by kernel_rfl) (by simp) ?_
  refine AllReadyH.cons rfl (fun K hK => ?_) ?_
  · skip
    clear hHeld
    go_simp
    have pa_0 : (v52.alloc (.cells #[.slice a rows.length c, .slice b rows1.length d] 28)).cell? ⟨v52.heap.size, 0, none⟩ = some (.slice a rows.length c) := cell_new _ _ _ rfl rfl
    have pa_f0 : (v52.alloc (.cells #[.slice a rows.length c, .slice b rows1.length d] 28)).frozen? ⟨v52.heap.size, 0, none⟩ = false := fro_new _ _ _ rfl
    have pa_1 : (v52.alloc (.cells #[.slice a rows.length c, .slice b rows1.length d] 28)).cell? ⟨v52.heap.size, 1, none⟩ = some (.slice b rows1.length d) := cell_new _ _ _ rfl rfl
    have pa_f1 : (v52.alloc (.cells #[.slice a rows.length c, .slice b rows1.length d] 28)).frozen? ⟨v52.heap.size, 1, none⟩ = false := fro_new _ _ _ rfl
    have hb := below_alloc v52 (.cells #[.slice a rows.length c, .slice b rows1.length d] 28)
    have lt_pa := size_alloc' v52 (.cells #[.slice a rows.length c, .slice b rows1.length d] 28)
    generalize hwn : v52.alloc (.cells #[.slice a rows.length c, .slice b rows1.length d] 28) = v53 at *
    clear hwn
    have sz53 : v52.heap.size ≤ v53.heap.size := hb.size
    replace f2_0 := fro_keep hb x2_0 f2_0
    replace f2_1 := fro_keep hb x2_1 f2_1
    replace px_f0 := fro_keep hb px_0 px_f0
    replace px_f1 := fro_keep hb px_1 px_f1
    replace x0_0 := cell_keep hb x0_0
    replace x0_1 := cell_keep hb x0_1
    replace x1_0 := cell_keep hb x1_0
    replace x1_1 := cell_keep hb x1_1
    replace x2_0 := cell_keep hb x2_0
    replace x2_1 := cell_keep hb x2_1
    replace px_0 := cell_keep hb px_0
    replace px_1 := cell_keep hb px_1
    have HBh53 := Lib.hid (HBh52.out.trans (hb.mono (by have := HBh52.out.size; omega)))
    clear hb
    obtain ⟨Bpa, hBpa⟩ : ∃ Bpa : Nat, Bpa = v52.heap.size := ⟨_, rfl⟩
    rw [← hBpa] at pa_0 pa_f0 pa_1 pa_f1 ⊢
    have hBlpa : Bpa ≤ v52.heap.size ∧ v52.heap.size ≤ Bpa := by omega
    clear hBpa
    refine hK.out _ _ ?_ (fun hHeld => ?_)
    · exact ⟨x0_0, x0_1, x1_0, x1_1⟩
    clear hK K
    try simp only [List.getElem_toArray, List.getElem_cons_succ, List.getElem_cons_zero, Act.put, List.setIfInBounds_toArray, List.set_cons_zero, List.set_cons_succ]
    refine wpAnyH_ready (rs := [5, 10]) (by kernel_rfl) (by simp) ?_
    refine AllReadyH.cons rfl (fun K hK => ?_) ?_
    · skip
      clear hHeld
      go_simp
      refine (HCR.out Bpa v53 HBh53.out pa_0 pa_1 (by omega)).mono ?_
      rintro e v54 ⟨p3, q3, rfl, ho, hb⟩
      have sz54 : v53.heap.size ≤ v54.heap.size := hb.size
      replace f2_0 := fro_keep hb x2_0 f2_0
      replace f2_1 := fro_keep hb x2_1 f2_1
      replace px_f0 := fro_keep hb px_0 px_f0
      replace px_f1 := fro_keep hb px_1 px_f1
      replace pa_f0 := fro_keep hb pa_0 pa_f0
      replace pa_f1 := fro_keep hb pa_1 pa_f1
      replace x0_0 := cell_keep hb x0_0
      replace x0_1 := cell_keep hb x0_1
      replace x1_0 := cell_keep hb x1_0
      replace x1_1 := cell_keep hb x1_1
      replace x2_0 := cell_keep hb x2_0
      replace x2_1 := cell_keep hb x2_1
      replace px_0 := cell_keep hb px_0
      replace px_1 := cell_keep hb px_1
      replace pa_0 := cell_keep hb pa_0
      replace pa_1 := cell_keep hb pa_1
      have HBh54 := Lib.hid (HBh53.out.trans (hb.mono (by have := HBh53.out.size; omega)))
      clear hb
      have HOR := Lib.hid ho
      clear ho
      refine hK.out _ _ ?_ (fun hHeld => ?_)
      · exact ⟨x0_0, x0_1, x1_0, x1_1⟩
      clear hK K
      try simp only [List.getElem_toArray, List.getElem_cons_succ, List.getElem_cons_zero, Act.put, List.setIfInBounds_toArray, List.set_cons_zero, List.set_cons_succ]
      refine wpAnyH_ready (rs := [10]) (by kernel_rfl) (by simp) ?_
      refine AllReadyH.cons rfl (fun K hK => ?_) AllReadyH.nil
      clear hHeld
      go_simp
      have pb_0 : (v54.alloc (.cells #[.slice a' zs.length c', .slice b' zs1.length d'] 22)).cell? ⟨v54.heap.size, 0, none⟩ = some (.slice a' zs.length c') := cell_new _ _ _ rfl rfl
      have pb_f0 : (v54.alloc (.cells #[.slice a' zs.length c', .slice b' zs1.length d'] 22)).frozen? ⟨v54.heap.size, 0, none⟩ = false := fro_new _ _ _ rfl
      have pb_1 : (v54.alloc (.cells #[.slice a' zs.length c', .slice b' zs1.length d'] 22)).cell? ⟨v54.heap.size, 1, none⟩ = some (.slice b' zs1.length d') := cell_new _ _ _ rfl rfl
      have pb_f1 : (v54.alloc (.cells #[.slice a' zs.length c', .slice b' zs1.length d'] 22)).frozen? ⟨v54.heap.size, 1, none⟩ = false := fro_new _ _ _ rfl
      have hb := below_alloc v54 (.cells #[.slice a' zs.length c', .slice b' zs1.length d'] 22)
      have lt_pb := size_alloc' v54 (.cells #[.slice a' zs.length c', .slice b' zs1.length d'] 22)
      generalize hwn : v54.alloc (.cells #[.slice a' zs.length c', .slice b' zs1.length d'] 22) = v55 at *
      clear hwn
      have sz55 : v54.heap.size ≤ v55.heap.size := hb.size
      replace f2_0 := fro_keep hb x2_0 f2_0
      replace f2_1 := fro_keep hb x2_1 f2_1
      replace px_f0 := fro_keep hb px_0 px_f0
      replace px_f1 := fro_keep hb px_1 px_f1
      replace pa_f0 := fro_keep hb pa_0 pa_f0
      replace pa_f1 := fro_keep hb pa_1 pa_f1
      replace x0_0 := cell_keep hb x0_0
      replace x0_1 := cell_keep hb x0_1
      replace x1_0 := cell_keep hb x1_0
      replace x1_1 := cell_keep hb x1_1
      replace x2_0 := cell_keep hb x2_0
      replace x2_1 := cell_keep hb x2_1
      replace px_0 := cell_keep hb px_0
      replace px_1 := cell_keep hb px_1
      replace pa_0 := cell_keep hb pa_0
      replace pa_1 := cell_keep hb pa_1
      replace HOR := Lib.hid (HOR.out.below hb)
      have HBh55 := Lib.hid (HBh54.out.trans (hb.mono (by have := HBh54.out.size; omega)))
      clear hb
      obtain ⟨Bpb, hBpb⟩ : ∃ Bpb : Nat, Bpb = v54.heap.size := ⟨_, rfl⟩
      rw [← hBpb] at pb_0 pb_f0 pb_1 pb_f1 ⊢
      have hBlpb : Bpb ≤ v54.heap.size ∧ v54.heap.size ≤ Bpb := by omega
      clear hBpb
      refine hK.out _ _ ?_ (fun hHeld => ?_)
      · exact ⟨x0_0, x0_1, x1_0, x1_1⟩
      clear hK K
      try simp only [List.getElem_toArray, List.getElem_cons_succ, List.getElem_cons_zero, Act.put, List.setIfInBounds_toArray, List.set_cons_zero, List.set_cons_succ]
      refine wpAnyH_ready (rs := [11]) (by kernel_rfl) (by simp) ?_
      refine AllReadyH.cons rfl (fun K hK => ?_) AllReadyH.nil
      clear hHeld
      go_simp
      refine (HCL.out Bpb v55 HBh55.out pb_0 pb_1 (by omega)).mono ?_
      rintro e v56 ⟨p4, q4, rfl, ho, hb⟩
      have sz56 : v55.heap.size ≤ v56.heap.size := hb.size
      replace f2_0 := fro_keep hb x2_0 f2_0
      replace f2_1 := fro_keep hb x2_1 f2_1
      replace px_f0 := fro_keep hb px_0 px_f0
      replace px_f1 := fro_keep hb px_1 px_f1
      replace pa_f0 := fro_keep hb pa_0 pa_f0
      replace pa_f1 := fro_keep hb pa_1 pa_f1
      replace pb_f0 := fro_keep hb pb_0 pb_f0
      replace pb_f1 := fro_keep hb pb_1 pb_f1
      replace x0_0 := cell_keep hb x0_0
      replace x0_1 := cell_keep hb x0_1
      replace x1_0 := cell_keep hb x1_0
      replace x1_1 := cell_keep hb x1_1
      replace x2_0 := cell_keep hb x2_0
      replace x2_1 := cell_keep hb x2_1
      replace px_0 := cell_keep hb px_0
      replace px_1 := cell_keep hb px_1
      replace pa_0 := cell_keep hb pa_0
      replace pa_1 := cell_keep hb pa_1
      replace pb_0 := cell_keep hb pb_0
      replace pb_1 := cell_keep hb pb_1
      replace HOR := Lib.hid (HOR.out.below hb)
      have HBh56 := Lib.hid (HBh55.out.trans (hb.mono (by have := HBh55.out.size; omega)))
      clear hb
      have HOL := Lib.hid ho
      clear ho
      refine hK.out _ _ ?_ (fun hHeld => ?_)
      · exact ⟨x0_0, x0_1, x1_0, x1_1⟩
      clear hK K
      try simp only [List.getElem_toArray, List.getElem_cons_succ, List.getElem_cons_zero, Act.put, List.setIfInBounds_toArray, List.set_cons_zero, List.set_cons_succ]
      refine wpAnyH_take (i := 12) (v := ?_) rfl (by kernel_rfl) (by kernel_rfl) (by kernel_rfl) (fun _ _ _ h => h) (Or.inl ⟨by rfl, ?_⟩) (by assumption) ?_
      rotate_left
      · intro w9 hSw; (try dsimp only at hSw); go_simp; try with_reducible rfl
      try simp only [List.getElem_toArray, List.getElem_cons_succ, List.getElem_cons_zero, Act.put, List.setIfInBounds_toArray, List.set_cons_zero, List.set_cons_succ]
      refine wpAnyH_ready (rs := [14]) (by kernel_rfl) (by simp) ?_
      refine AllReadyH.cons rfl (fun K hK => ?_) AllReadyH.nil
      clear hHeld
      go_simp
      have hg : v56.grownBy ((v56.setCell ⟨Bpx, 0, none⟩ (.slice p3 R.length q3)).setCell ⟨Bpx, 1, none⟩ (.slice p4 Z.length q4)) (some (Bpx)) := grown_trans (grown_set v56 (Bpx) 0 (.slice p3 R.length q3)) (grown_set _ (Bpx) 1 (.slice p4 Z.length q4))
      have nx0 : ((v56.setCell ⟨Bpx, 0, none⟩ (.slice p3 R.length q3)).setCell ⟨Bpx, 1, none⟩ (.slice p4 Z.length q4)).cell? ⟨Bpx, 0, none⟩ = some (.slice p3 R.length q3) := (World.cell?_setCell_other _ _ _ _ (by simp)).trans (World.cell?_setCell_same _ _ _ px_0)
      have nf0 : ((v56.setCell ⟨Bpx, 0, none⟩ (.slice p3 R.length q3)).setCell ⟨Bpx, 1, none⟩ (.slice p4 Z.length q4)).frozen? ⟨Bpx, 0, none⟩ = false := by simp only [World.frozen?_setCell]; exact px_f0
      have nx1 : ((v56.setCell ⟨Bpx, 0, none⟩ (.slice p3 R.length q3)).setCell ⟨Bpx, 1, none⟩ (.slice p4 Z.length q4)).cell? ⟨Bpx, 1, none⟩ = some (.slice p4 Z.length q4) := World.cell?_setCell_same _ _ _ ((World.cell?_setCell_other _ _ _ _ (by simp)).trans px_1)
      have nf1 : ((v56.setCell ⟨Bpx, 0, none⟩ (.slice p3 R.length q3)).setCell ⟨Bpx, 1, none⟩ (.slice p4 Z.length q4)).frozen? ⟨Bpx, 1, none⟩ = false := by simp only [World.frozen?_setCell]; exact px_f1
      clear px_0 px_f0 px_1 px_f1
      generalize hwn : ((v56.setCell ⟨Bpx, 0, none⟩ (.slice p3 R.length q3)).setCell ⟨Bpx, 1, none⟩ (.slice p4 Z.length q4)) = v57 at *
      clear hwn
      have sz57 : v56.heap.size ≤ v57.heap.size := hg.size
      replace f2_0 := fro_grow hg x2_0 f2_0 (fun g e => by (have e2 : Bpx = g := by simpa using e); omega)
      replace f2_1 := fro_grow hg x2_1 f2_1 (fun g e => by (have e2 : Bpx = g := by simpa using e); omega)
      replace pa_f0 := fro_grow hg pa_0 pa_f0 (fun g e => by (have e2 : Bpx = g := by simpa using e); omega)
      replace pa_f1 := fro_grow hg pa_1 pa_f1 (fun g e => by (have e2 : Bpx = g := by simpa using e); omega)
      replace pb_f0 := fro_grow hg pb_0 pb_f0 (fun g e => by (have e2 : Bpx = g := by simpa using e); omega)
      replace pb_f1 := fro_grow hg pb_1 pb_f1 (fun g e => by (have e2 : Bpx = g := by simpa using e); omega)
      replace x0_0 := cell_grow hg x0_0 (fun g e => by (have e2 : Bpx = g := by simpa using e); omega)
      replace x0_1 := cell_grow hg x0_1 (fun g e => by (have e2 : Bpx = g := by simpa using e); omega)
      replace x1_0 := cell_grow hg x1_0 (fun g e => by (have e2 : Bpx = g := by simpa using e); omega)
      replace x1_1 := cell_grow hg x1_1 (fun g e => by (have e2 : Bpx = g := by simpa using e); omega)
      replace x2_0 := cell_grow hg x2_0 (fun g e => by (have e2 : Bpx = g := by simpa using e); omega)
      replace x2_1 := cell_grow hg x2_1 (fun g e => by (have e2 : Bpx = g := by simpa using e); omega)
      replace pa_0 := cell_grow hg pa_0 (fun g e => by (have e2 : Bpx = g := by simpa using e); omega)
      replace pa_1 := cell_grow hg pa_1 (fun g e => by (have e2 : Bpx = g := by simpa using e); omega)
      replace pb_0 := cell_grow hg pb_0 (fun g e => by (have e2 : Bpx = g := by simpa using e); omega)
      replace pb_1 := cell_grow hg pb_1 (fun g e => by (have e2 : Bpx = g := by simpa using e); omega)
      replace HOR := Lib.hid (own_grow hg HOR.out (fun g e => by (have e2 : Bpx = g := by simpa using e); omega))
      replace HOL := Lib.hid (own_grow hg HOL.out (fun g e => by (have e2 : Bpx = g := by simpa using e); omega))
      have HBh57 := Lib.hid (HBh56.out.grown hg (by have := HBh56.out.size; omega) (fun g e => by (have e2 : Bpx = g := by simpa using e); omega))
      have px_0 := nx0
      have px_f0 := nf0
      have px_1 := nx1
      have px_f1 := nf1
      clear hg nx0 nf0 nx1 nf1
      refine hK.out _ _ ?_ (fun hHeld => ?_)
      · exact ⟨x0_0, x0_1, x1_0, x1_1⟩
      clear hK K
      try simp only [List.getElem_toArray, List.getElem_cons_succ, List.getElem_cons_zero, Act.put, List.setIfInBounds_toArray, List.set_cons_zero, List.set_cons_succ]
      refine wpAnyH_done (by kernel_rfl) ?_ _
      refine NoPanic.normal ?_
      clear hHeld
      have hg9 := HRD.out v57 _ _ _ _ HOR.out HBh57.out
      have hi9 := HZD.out v57 _ _ _ _ HOL.out
      go_wp2_with fail
      refine (HCHG.out _ _ _ _ _ hg9 hi9).mono ?_
      rintro e va ⟨pv, lv, rfl, ho, hb⟩
      obtain ⟨p5, q5, rfl, hg5, _, _⟩ := ho.grid.slice
      obtain ⟨p6, q6, rfl, hi6, _, _⟩ := ho.ints.slice
      have sza : v57.heap.size ≤ va.heap.size := hb.size
      replace x2_0 := cell_below hb x2_0 (by omega)
      replace x2_1 := cell_below hb x2_1 (by omega)
      replace f2_0 := fro_below hb f2_0 (by omega)
      replace f2_1 := fro_below hb f2_1 (by omega)
      have HOS := Lib.hid ho
      have HBA := Lib.hid (HBh57.out.trans (hb.mono (by omega)))
      have HG5 := Lib.hid hg5
      have HI5 := Lib.hid hi6
      clear ho hb hg5 hi6 hg9 hi9
      go_wp2_with fail
      refine (HCK.out _ _ _ _ _ HG5.out HI5.out).mono ?_
      rintro e vb ⟨rfl, hb⟩
      have szb : va.heap.size ≤ vb.heap.size := hb.size
      replace x2_0 := cell_below hb x2_0 (by omega)
      replace x2_1 := cell_below hb x2_1 (by omega)
      replace f2_0 := fro_below hb f2_0 (by omega)
      replace f2_1 := fro_below hb f2_1 (by omega)
      have HOT := Lib.hid (HOS.out.below hb)
      have HBB := Lib.hid (HBA.out.trans (hb.mono (by omega)))
      clear hb
      go_wp2_with fail
      refine bodyPost_ret (v := .tuple #[.agg #[.slice p5 R.length q5, .slice p6 Z.length q6], .bool true]) (by simp [results, Try.results33, go_sem, x2_0, x2_1]) rfl ⟨_, _, rfl, ?_, ?_⟩
      · simp only [size_set]; exact ((HOT.out.set (by simp; omega) _).set (by simp; omega) _).mono (by omega) (by omega)
      · exact (HBB.out.setCell (by simp; omega) _).setCell (by simp; omega) _
    refine AllReadyH.cons rfl (fun K hK => ?_) AllReadyH.nil
    clear hHeld
    go_simp
    have pb_0 : (v53.alloc (.cells #[.slice a' zs.length c', .slice b' zs1.length d'] 22)).cell? ⟨v53.heap.size, 0, none⟩ = some (.slice a' zs.length c') := cell_new _ _ _ rfl rfl
    have pb_f0 : (v53.alloc (.cells #[.slice a' zs.length c', .slice b' zs1.length d'] 22)).frozen? ⟨v53.heap.size, 0, none⟩ = false := fro_new _ _ _ rfl
    have pb_1 : (v53.alloc (.cells #[.slice a' zs.length c', .slice b' zs1.length d'] 22)).cell? ⟨v53.heap.size, 1, none⟩ = some (.slice b' zs1.length d') := cell_new _ _ _ rfl rfl
    have pb_f1 : (v53.alloc (.cells #[.slice a' zs.length c', .slice b' zs1.length d'] 22)).frozen? ⟨v53.heap.size, 1, none⟩ = false := fro_new _ _ _ rfl
    have hb := below_alloc v53 (.cells #[.slice a' zs.length c', .slice b' zs1.length d'] 22)
    have lt_pb := size_alloc' v53 (.cells #[.slice a' zs.length c', .slice b' zs1.length d'] 22)
    generalize hwn : v53.alloc (.cells #[.slice a' zs.length c', .slice b' zs1.length d'] 22) = v54 at *
    clear hwn
    have sz54 : v53.heap.size ≤ v54.heap.size := hb.size
    replace f2_0 := fro_keep hb x2_0 f2_0
    replace f2_1 := fro_keep hb x2_1 f2_1
    replace px_f0 := fro_keep hb px_0 px_f0
    replace px_f1 := fro_keep hb px_1 px_f1
    replace pa_f0 := fro_keep hb pa_0 pa_f0
    replace pa_f1 := fro_keep hb pa_1 pa_f1
    replace x0_0 := cell_keep hb x0_0
    replace x0_1 := cell_keep hb x0_1
    replace x1_0 := cell_keep hb x1_0
    replace x1_1 := cell_keep hb x1_1
    replace x2_0 := cell_keep hb x2_0
    replace x2_1 := cell_keep hb x2_1
    replace px_0 := cell_keep hb px_0
    replace px_1 := cell_keep hb px_1
    replace pa_0 := cell_keep hb pa_0
    replace pa_1 := cell_keep hb pa_1
    have HBh54 := Lib.hid (HBh53.out.trans (hb.mono (by have := HBh53.out.size; omega)))
    clear hb
    obtain ⟨Bpb, hBpb⟩ : ∃ Bpb : Nat, Bpb = v53.heap.size := ⟨_, rfl⟩
    rw [← hBpb] at pb_0 pb_f0 pb_1 pb_f1 ⊢
    have hBlpb : Bpb ≤ v53.heap.size ∧ v53.heap.size ≤ Bpb := by omega
    clear hBpb
    refine hK.out _ _ ?_ (fun hHeld => ?_)
    · exact ⟨x0_0, x0_1, x1_0, x1_1⟩
    clear hK K
    try simp only [List.getElem_toArray, List.getElem_cons_succ, List.getElem_cons_zero, Act.put, List.setIfInBounds_toArray, List.set_cons_zero, List.set_cons_succ]
    refine wpAnyH_ready (rs := [5]) (by kernel_rfl) (by simp) ?_
    refine AllReadyH.cons rfl (fun K hK => ?_) AllReadyH.nil
    clear hHeld
    go_simp
    refine (HCR.out Bpa v54 HBh54.out pa_0 pa_1 (by omega)).mono ?_
    rintro e v55 ⟨p3, q3, rfl, ho, hb⟩
    have sz55 : v54.heap.size ≤ v55.heap.size := hb.size
    replace f2_0 := fro_keep hb x2_0 f2_0
    replace f2_1 := fro_keep hb x2_1 f2_1
    replace px_f0 := fro_keep hb px_0 px_f0
    replace px_f1 := fro_keep hb px_1 px_f1
    replace pa_f0 := fro_keep hb pa_0 pa_f0
    replace pa_f1 := fro_keep hb pa_1 pa_f1
    replace pb_f0 := fro_keep hb pb_0 pb_f0
    replace pb_f1 := fro_keep hb pb_1 pb_f1
    replace x0_0 := cell_keep hb x0_0
    replace x0_1 := cell_keep hb x0_1
    replace x1_0 := cell_keep hb x1_0
    replace x1_1 := cell_keep hb x1_1
    replace x2_0 := cell_keep hb x2_0
    replace x2_1 := cell_keep hb x2_1
    replace px_0 := cell_keep hb px_0
    replace px_1 := cell_keep hb px_1
    replace pa_0 := cell_keep hb pa_0
    replace pa_1 := cell_keep hb pa_1
    replace pb_0 := cell_keep hb pb_0
    replace pb_1 := cell_keep hb pb_1
    have HBh55 := Lib.hid (HBh54.out.trans (hb.mono (by have := HBh54.out.size; omega)))
    clear hb
    have HOR := Lib.hid ho
    clear ho
    refine hK.out _ _ ?_ (fun hHeld => ?_)
    · exact ⟨x0_0, x0_1, x1_0, x1_1⟩
    clear hK K
    try simp only [List.getElem_toArray, List.getElem_cons_succ, List.getElem_cons_zero, Act.put, List.setIfInBounds_toArray, List.set_cons_zero, List.set_cons_succ]
    refine wpAnyH_ready (rs := [11]) (by kernel_rfl) (by simp) ?_
    refine AllReadyH.cons rfl (fun K hK => ?_) AllReadyH.nil
    clear hHeld
    go_simp
    refine (HCL.out Bpb v55 HBh55.out pb_0 pb_1 (by omega)).mono ?_
    rintro e v56 ⟨p4, q4, rfl, ho, hb⟩
    have sz56 : v55.heap.size ≤ v56.heap.size := hb.size
    replace f2_0 := fro_keep hb x2_0 f2_0
    replace f2_1 := fro_keep hb x2_1 f2_1
    replace px_f0 := fro_keep hb px_0 px_f0
    replace px_f1 := fro_keep hb px_1 px_f1
    replace pa_f0 := fro_keep hb pa_0 pa_f0
    replace pa_f1 := fro_keep hb pa_1 pa_f1
    replace pb_f0 := fro_keep hb pb_0 pb_f0
    replace pb_f1 := fro_keep hb pb_1 pb_f1
    replace x0_0 := cell_keep hb x0_0
    replace x0_1 := cell_keep hb x0_1
    replace x1_0 := cell_keep hb x1_0
    replace x1_1 := cell_keep hb x1_1
    replace x2_0 := cell_keep hb x2_0
    replace x2_1 := cell_keep hb x2_1
    replace px_0 := cell_keep hb px_0
    replace px_1 := cell_keep hb px_1
    replace pa_0 := cell_keep hb pa_0
    replace pa_1 := cell_keep hb pa_1
    replace pb_0 := cell_keep hb pb_0
    replace pb_1 := cell_keep hb pb_1
    replace HOR := Lib.hid (HOR.out.below hb)
    have HBh56 := Lib.hid (HBh55.out.trans (hb.mono (by have := HBh55.out.size; omega)))
    clear hb
    have HOL := Lib.hid ho
    clear ho
    refine hK.out _ _ ?_ (fun hHeld => ?_)
    · exact ⟨x0_0, x0_1, x1_0, x1_1⟩
    clear hK K
    try simp only [List.getElem_toArray, List.getElem_cons_succ, List.getElem_cons_zero, Act.put, List.setIfInBounds_toArray, List.set_cons_zero, List.set_cons_succ]
    refine wpAnyH_take (i := 12) (v := ?_) rfl (by kernel_rfl) (by kernel_rfl) (by kernel_rfl) (fun _ _ _ h => h) (Or.inl ⟨by rfl, ?_⟩) (by assumption) ?_
    rotate_left
    · intro w9 hSw; (try dsimp only at hSw); go_simp; try with_reducible rfl
    try simp only [List.getElem_toArray, List.getElem_cons_succ, List.getElem_cons_zero, Act.put, List.setIfInBounds_toArray, List.set_cons_zero, List.set_cons_succ]
    refine wpAnyH_ready (rs := [14]) (by kernel_rfl) (by simp) ?_
    refine AllReadyH.cons rfl (fun K hK => ?_) AllReadyH.nil
    clear hHeld
    go_simp
    have hg : v56.grownBy ((v56.setCell ⟨Bpx, 0, none⟩ (.slice p3 R.length q3)).setCell ⟨Bpx, 1, none⟩ (.slice p4 Z.length q4)) (some (Bpx)) := grown_trans (grown_set v56 (Bpx) 0 (.slice p3 R.length q3)) (grown_set _ (Bpx) 1 (.slice p4 Z.length q4))
    have nx0 : ((v56.setCell ⟨Bpx, 0, none⟩ (.slice p3 R.length q3)).setCell ⟨Bpx, 1, none⟩ (.slice p4 Z.length q4)).cell? ⟨Bpx, 0, none⟩ = some (.slice p3 R.length q3) := (World.cell?_setCell_other _ _ _ _ (by simp)).trans (World.cell?_setCell_same _ _ _ px_0)
    have nf0 : ((v56.setCell ⟨Bpx, 0, none⟩ (.slice p3 R.length q3)).setCell ⟨Bpx, 1, none⟩ (.slice p4 Z.length q4)).frozen? ⟨Bpx, 0, none⟩ = false := by simp only [World.frozen?_setCell]; exact px_f0
    have nx1 : ((v56.setCell ⟨Bpx, 0, none⟩ (.slice p3 R.length q3)).setCell ⟨Bpx, 1, none⟩ (.slice p4 Z.length q4)).cell? ⟨Bpx, 1, none⟩ = some (.slice p4 Z.length q4) := World.cell?_setCell_same _ _ _ ((World.cell?_setCell_other _ _ _ _ (by simp)).trans px_1)
    have nf1 : ((v56.setCell ⟨Bpx, 0, none⟩ (.slice p3 R.length q3)).setCell ⟨Bpx, 1, none⟩ (.slice p4 Z.length q4)).frozen? ⟨Bpx, 1, none⟩ = false := by simp only [World.frozen?_setCell]; exact px_f1
    clear px_0 px_f0 px_1 px_f1
    generalize hwn : ((v56.setCell ⟨Bpx, 0, none⟩ (.slice p3 R.length q3)).setCell ⟨Bpx, 1, none⟩ (.slice p4 Z.length q4)) = v57 at *
    clear hwn
    have sz57 : v56.heap.size ≤ v57.heap.size := hg.size
    replace f2_0 := fro_grow hg x2_0 f2_0 (fun g e => by (have e2 : Bpx = g := by simpa using e); omega)
    replace f2_1 := fro_grow hg x2_1 f2_1 (fun g e => by (have e2 : Bpx = g := by simpa using e); omega)
    replace pa_f0 := fro_grow hg pa_0 pa_f0 (fun g e => by (have e2 : Bpx = g := by simpa using e); omega)
    replace pa_f1 := fro_grow hg pa_1 pa_f1 (fun g e => by (have e2 : Bpx = g := by simpa using e); omega)
    replace pb_f0 := fro_grow hg pb_0 pb_f0 (fun g e => by (have e2 : Bpx = g := by simpa using e); omega)
    replace pb_f1 := fro_grow hg pb_1 pb_f1 (fun g e => by (have e2 : Bpx = g := by simpa using e); omega)
    replace x0_0 := cell_grow hg x0_0 (fun g e => by (have e2 : Bpx = g := by simpa using e); omega)
    replace x0_1 := cell_grow hg x0_1 (fun g e => by (have e2 : Bpx = g := by simpa using e); omega)
    replace x1_0 := cell_grow hg x1_0 (fun g e => by (have e2 : Bpx = g := by simpa using e); omega)
    replace x1_1 := cell_grow hg x1_1 (fun g e => by (have e2 : Bpx = g := by simpa using e); omega)
    replace x2_0 := cell_grow hg x2_0 (fun g e => by (have e2 : Bpx = g := by simpa using e); omega)
    replace x2_1 := cell_grow hg x2_1 (fun g e => by (have e2 : Bpx = g := by simpa using e); omega)
    replace pa_0 := cell_grow hg pa_0 (fun g e => by (have e2 : Bpx = g := by simpa using e); omega)
    replace pa_1 := cell_grow hg pa_1 (fun g e => by (have e2 : Bpx = g := by simpa using e); omega)
    replace pb_0 := cell_grow hg pb_0 (fun g e => by (have e2 : Bpx = g := by simpa using e); omega)
    replace pb_1 := cell_grow hg pb_1 (fun g e => by (have e2 : Bpx = g := by simpa using e); omega)
    replace HOR := Lib.hid (own_grow hg HOR.out (fun g e => by (have e2 : Bpx = g := by simpa using e); omega))
    replace HOL := Lib.hid (own_grow hg HOL.out (fun g e => by (have e2 : Bpx = g := by simpa using e); omega))
    have HBh57 := Lib.hid (HBh56.out.grown hg (by have := HBh56.out.size; omega) (fun g e => by (have e2 : Bpx = g := by simpa using e); omega))
    have px_0 := nx0
    have px_f0 := nf0
    have px_1 := nx1
    have px_f1 := nf1
    clear hg nx0 nf0 nx1 nf1
    refine hK.out _ _ ?_ (fun hHeld => ?_)
    · exact ⟨x0_0, x0_1, x1_0, x1_1⟩
    clear hK K
    try simp only [List.getElem_toArray, List.getElem_cons_succ, List.getElem_cons_zero, Act.put, List.setIfInBounds_toArray, List.set_cons_zero, List.set_cons_succ]
    refine wpAnyH_done (by kernel_rfl) ?_ _
    refine NoPanic.normal ?_
    clear hHeld
    have hg9 := HRD.out v57 _ _ _ _ HOR.out HBh57.out
    have hi9 := HZD.out v57 _ _ _ _ HOL.out
    go_wp2_with fail
    refine (HCHG.out _ _ _ _ _ hg9 hi9).mono ?_
    rintro e va ⟨pv, lv, rfl, ho, hb⟩
    obtain ⟨p5, q5, rfl, hg5, _, _⟩ := ho.grid.slice
    obtain ⟨p6, q6, rfl, hi6, _, _⟩ := ho.ints.slice
    have sza : v57.heap.size ≤ va.heap.size := hb.size
    replace x2_0 := cell_below hb x2_0 (by omega)
    replace x2_1 := cell_below hb x2_1 (by omega)
    replace f2_0 := fro_below hb f2_0 (by omega)
    replace f2_1 := fro_below hb f2_1 (by omega)
    have HOS := Lib.hid ho
    have HBA := Lib.hid (HBh57.out.trans (hb.mono (by omega)))
    have HG5 := Lib.hid hg5
    have HI5 := Lib.hid hi6
    clear ho hb hg5 hi6 hg9 hi9
    go_wp2_with fail
    refine (HCK.out _ _ _ _ _ HG5.out HI5.out).mono ?_
    rintro e vb ⟨rfl, hb⟩
    have szb : va.heap.size ≤ vb.heap.size := hb.size
    replace x2_0 := cell_below hb x2_0 (by omega)
    replace x2_1 := cell_below hb x2_1 (by omega)
    replace f2_0 := fro_below hb f2_0 (by omega)
    replace f2_1 := fro_below hb f2_1 (by omega)
    have HOT := Lib.hid (HOS.out.below hb)
    have HBB := Lib.hid (HBA.out.trans (hb.mono (by omega)))
    clear hb
    go_wp2_with fail
    refine bodyPost_ret (v := .tuple #[.agg #[.slice p5 R.length q5, .slice p6 Z.length q6], .bool true]) (by simp [results, Try.results33, go_sem, x2_0, x2_1]) rfl ⟨_, _, rfl, ?_, ?_⟩
    · simp only [size_set]; exact ((HOT.out.set (by simp; omega) _).set (by simp; omega) _).mono (by omega) (by omega)
    · exact (HBB.out.setCell (by simp; omega) _).setCell (by simp; omega) _
  refine AllReadyH.cons rfl (fun K hK => ?_) AllReadyH.nil
  clear hHeld
  go_simp
  have pb_0 : (v52.alloc (.cells #[.slice a' zs.length c', .slice b' zs1.length d'] 22)).cell? ⟨v52.heap.size, 0, none⟩ = some (.slice a' zs.length c') := cell_new _ _ _ rfl rfl
  have pb_f0 : (v52.alloc (.cells #[.slice a' zs.length c', .slice b' zs1.length d'] 22)).frozen? ⟨v52.heap.size, 0, none⟩ = false := fro_new _ _ _ rfl
  have pb_1 : (v52.alloc (.cells #[.slice a' zs.length c', .slice b' zs1.length d'] 22)).cell? ⟨v52.heap.size, 1, none⟩ = some (.slice b' zs1.length d') := cell_new _ _ _ rfl rfl
  have pb_f1 : (v52.alloc (.cells #[.slice a' zs.length c', .slice b' zs1.length d'] 22)).frozen? ⟨v52.heap.size, 1, none⟩ = false := fro_new _ _ _ rfl
  have hb := below_alloc v52 (.cells #[.slice a' zs.length c', .slice b' zs1.length d'] 22)
  have lt_pb := size_alloc' v52 (.cells #[.slice a' zs.length c', .slice b' zs1.length d'] 22)
  generalize hwn : v52.alloc (.cells #[.slice a' zs.length c', .slice b' zs1.length d'] 22) = v53 at *
  clear hwn
  have sz53 : v52.heap.size ≤ v53.heap.size := hb.size
  replace f2_0 := fro_keep hb x2_0 f2_0
  replace f2_1 := fro_keep hb x2_1 f2_1
  replace px_f0 := fro_keep hb px_0 px_f0
  replace px_f1 := fro_keep hb px_1 px_f1
  replace x0_0 := cell_keep hb x0_0
  replace x0_1 := cell_keep hb x0_1
  replace x1_0 := cell_keep hb x1_0
  replace x1_1 := cell_keep hb x1_1
  replace x2_0 := cell_keep hb x2_0
  replace x2_1 := cell_keep hb x2_1
  replace px_0 := cell_keep hb px_0
  replace px_1 := cell_keep hb px_1
  have HBh53 := Lib.hid (HBh52.out.trans (hb.mono (by have := HBh52.out.size; omega)))
  clear hb
  obtain ⟨Bpb, hBpb⟩ : ∃ Bpb : Nat, Bpb = v52.heap.size := ⟨_, rfl⟩
  rw [← hBpb] at pb_0 pb_f0 pb_1 pb_f1 ⊢
  have hBlpb : Bpb ≤ v52.heap.size ∧ v52.heap.size ≤ Bpb := by omega
  clear hBpb
  refine hK.out _ _ ?_ (fun hHeld => ?_)
  · exact ⟨x0_0, x0_1, x1_0, x1_1⟩
  clear hK K
  try simp only [List.getElem_toArray, List.getElem_cons_succ, List.getElem_cons_zero, Act.put, List.setIfInBounds_toArray, List.set_cons_zero, List.set_cons_succ]
  refine wpAnyH_ready (rs := [4]) (by kernel_rfl) (by simp) ?_
  refine AllReadyH.cons rfl (fun K hK => ?_) AllReadyH.nil
  clear hHeld
  go_simp
  have pa_0 : (v53.alloc (.cells #[.slice a rows.length c, .slice b rows1.length d] 28)).cell? ⟨v53.heap.size, 0, none⟩ = some (.slice a rows.length c) := cell_new _ _ _ rfl rfl
  have pa_f0 : (v53.alloc (.cells #[.slice a rows.length c, .slice b rows1.length d] 28)).frozen? ⟨v53.heap.size, 0, none⟩ = false := fro_new _ _ _ rfl
  have pa_1 : (v53.alloc (.cells #[.slice a rows.length c, .slice b rows1.length d] 28)).cell? ⟨v53.heap.size, 1, none⟩ = some (.slice b rows1.length d) := cell_new _ _ _ rfl rfl
  have pa_f1 : (v53.alloc (.cells #[.slice a rows.length c, .slice b rows1.length d] 28)).frozen? ⟨v53.heap.size, 1, none⟩ = false := fro_new _ _ _ rfl
  have hb := below_alloc v53 (.cells #[.slice a rows.length c, .slice b rows1.length d] 28)
  have lt_pa := size_alloc' v53 (.cells #[.slice a rows.length c, .slice b rows1.length d] 28)
  generalize hwn : v53.alloc (.cells #[.slice a rows.length c, .slice b rows1.length d] 28) = v54 at *
  clear hwn
  have sz54 : v53.heap.size ≤ v54.heap.size := hb.size
  replace f2_0 := fro_keep hb x2_0 f2_0
  replace f2_1 := fro_keep hb x2_1 f2_1
  replace px_f0 := fro_keep hb px_0 px_f0
  replace px_f1 := fro_keep hb px_1 px_f1
  replace pb_f0 := fro_keep hb pb_0 pb_f0
  replace pb_f1 := fro_keep hb pb_1 pb_f1
  replace x0_0 := cell_keep hb x0_0
  replace x0_1 := cell_keep hb x0_1
  replace x1_0 := cell_keep hb x1_0
  replace x1_1 := cell_keep hb x1_1
  replace x2_0 := cell_keep hb x2_0
  replace x2_1 := cell_keep hb x2_1
  replace px_0 := cell_keep hb px_0
  replace px_1 := cell_keep hb px_1
  replace pb_0 := cell_keep hb pb_0
  replace pb_1 := cell_keep hb pb_1
  have HBh54 := Lib.hid (HBh53.out.trans (hb.mono (by have := HBh53.out.size; omega)))
  clear hb
  obtain ⟨Bpa, hBpa⟩ : ∃ Bpa : Nat, Bpa = v53.heap.size := ⟨_, rfl⟩
  rw [← hBpa] at pa_0 pa_f0 pa_1 pa_f1 ⊢
  have hBlpa : Bpa ≤ v53.heap.size ∧ v53.heap.size ≤ Bpa := by omega
  clear hBpa
  refine hK.out _ _ ?_ (fun hHeld => ?_)
  · exact ⟨x0_0, x0_1, x1_0, x1_1⟩
  clear hK K
  try simp only [List.getElem_toArray, List.getElem_cons_succ, List.getElem_cons_zero, Act.put, List.setIfInBounds_toArray, List.set_cons_zero, List.set_cons_succ]
  refine wpAnyH_ready (rs := [5]) (by kernel_rfl) (by simp) ?_
  refine AllReadyH.cons rfl (fun K hK => ?_) AllReadyH.nil
  clear hHeld
  go_simp
  refine (HCR.out Bpa v54 HBh54.out pa_0 pa_1 (by omega)).mono ?_
  rintro e v55 ⟨p3, q3, rfl, ho, hb⟩
  have sz55 : v54.heap.size ≤ v55.heap.size := hb.size
  replace f2_0 := fro_keep hb x2_0 f2_0
  replace f2_1 := fro_keep hb x2_1 f2_1
  replace px_f0 := fro_keep hb px_0 px_f0
  replace px_f1 := fro_keep hb px_1 px_f1
  replace pb_f0 := fro_keep hb pb_0 pb_f0
  replace pb_f1 := fro_keep hb pb_1 pb_f1
  replace pa_f0 := fro_keep hb pa_0 pa_f0
  replace pa_f1 := fro_keep hb pa_1 pa_f1
  replace x0_0 := cell_keep hb x0_0
  replace x0_1 := cell_keep hb x0_1
  replace x1_0 := cell_keep hb x1_0
  replace x1_1 := cell_keep hb x1_1
  replace x2_0 := cell_keep hb x2_0
  replace x2_1 := cell_keep hb x2_1
  replace px_0 := cell_keep hb px_0
  replace px_1 := cell_keep hb px_1
  replace pb_0 := cell_keep hb pb_0
  replace pb_1 := cell_keep hb pb_1
  replace pa_0 := cell_keep hb pa_0
  replace pa_1 := cell_keep hb pa_1
  have HBh55 := Lib.hid (HBh54.out.trans (hb.mono (by have := HBh54.out.size; omega)))
  clear hb
  have HOR := Lib.hid ho
  clear ho
  refine hK.out _ _ ?_ (fun hHeld => ?_)
  · exact ⟨x0_0, x0_1, x1_0, x1_1⟩
  clear hK K
  try simp only [List.getElem_toArray, List.getElem_cons_succ, List.getElem_cons_zero, Act.put, List.setIfInBounds_toArray, List.set_cons_zero, List.set_cons_succ]
  refine wpAnyH_ready (rs := [11]) (by kernel_rfl) (by simp) ?_
  refine AllReadyH.cons rfl (fun K hK => ?_) AllReadyH.nil
  clear hHeld
  go_simp
  refine (HCL.out Bpb v55 HBh55.out pb_0 pb_1 (by omega)).mono ?_
  rintro e v56 ⟨p4, q4, rfl, ho, hb⟩
  have sz56 : v55.heap.size ≤ v56.heap.size := hb.size
  replace f2_0 := fro_keep hb x2_0 f2_0
  replace f2_1 := fro_keep hb x2_1 f2_1
  replace px_f0 := fro_keep hb px_0 px_f0
  replace px_f1 := fro_keep hb px_1 px_f1
  replace pb_f0 := fro_keep hb pb_0 pb_f0
  replace pb_f1 := fro_keep hb pb_1 pb_f1
  replace pa_f0 := fro_keep hb pa_0 pa_f0
  replace pa_f1 := fro_keep hb pa_1 pa_f1
  replace x0_0 := cell_keep hb x0_0
  replace x0_1 := cell_keep hb x0_1
  replace x1_0 := cell_keep hb x1_0
  replace x1_1 := cell_keep hb x1_1
  replace x2_0 := cell_keep hb x2_0
  replace x2_1 := cell_keep hb x2_1
  replace px_0 := cell_keep hb px_0
  replace px_1 := cell_keep hb px_1
  replace pb_0 := cell_keep hb pb_0
  replace pb_1 := cell_keep hb pb_1
  replace pa_0 := cell_keep hb pa_0
  replace pa_1 := cell_keep hb pa_1
  replace HOR := Lib.hid (HOR.out.below hb)
  have HBh56 := Lib.hid (HBh55.out.trans (hb.mono (by have := HBh55.out.size; omega)))
  clear hb
  have HOL := Lib.hid ho
  clear ho
  refine hK.out _ _ ?_ (fun hHeld => ?_)
  · exact ⟨x0_0, x0_1, x1_0, x1_1⟩
  clear hK K
  try simp only [List.getElem_toArray, List.getElem_cons_succ, List.getElem_cons_zero, Act.put, List.setIfInBounds_toArray, List.set_cons_zero, List.set_cons_succ]
  refine wpAnyH_take (i := 12) (v := ?_) rfl (by kernel_rfl) (by kernel_rfl) (by kernel_rfl) (fun _ _ _ h => h) (Or.inl ⟨by rfl, ?_⟩) (by assumption) ?_
  rotate_left
  · intro w9 hSw; (try dsimp only at hSw); go_simp; try with_reducible rfl
  try simp only [List.getElem_toArray, List.getElem_cons_succ, List.getElem_cons_zero, Act.put, List.setIfInBounds_toArray, List.set_cons_zero, List.set_cons_succ]
  refine wpAnyH_ready (rs := [14]) (by kernel_rfl) (by simp) ?_
  refine AllReadyH.cons rfl (fun K hK => ?_) AllReadyH.nil
  clear hHeld
  go_simp
  have hg : v56.grownBy ((v56.setCell ⟨Bpx, 0, none⟩ (.slice p3 R.length q3)).setCell ⟨Bpx, 1, none⟩ (.slice p4 Z.length q4)) (some (Bpx)) := grown_trans (grown_set v56 (Bpx) 0 (.slice p3 R.length q3)) (grown_set _ (Bpx) 1 (.slice p4 Z.length q4))
  have nx0 : ((v56.setCell ⟨Bpx, 0, none⟩ (.slice p3 R.length q3)).setCell ⟨Bpx, 1, none⟩ (.slice p4 Z.length q4)).cell? ⟨Bpx, 0, none⟩ = some (.slice p3 R.length q3) := (World.cell?_setCell_other _ _ _ _ (by simp)).trans (World.cell?_setCell_same _ _ _ px_0)
  have nf0 : ((v56.setCell ⟨Bpx, 0, none⟩ (.slice p3 R.length q3)).setCell ⟨Bpx, 1, none⟩ (.slice p4 Z.length q4)).frozen? ⟨Bpx, 0, none⟩ = false := by simp only [World.frozen?_setCell]; exact px_f0
  have nx1 : ((v56.setCell ⟨Bpx, 0, none⟩ (.slice p3 R.length q3)).setCell ⟨Bpx, 1, none⟩ (.slice p4 Z.length q4)).cell? ⟨Bpx, 1, none⟩ = some (.slice p4 Z.length q4) := World.cell?_setCell_same _ _ _ ((World.cell?_setCell_other _ _ _ _ (by simp)).trans px_1)
  have nf1 : ((v56.setCell ⟨Bpx, 0, none⟩ (.slice p3 R.length q3)).setCell ⟨Bpx, 1, none⟩ (.slice p4 Z.length q4)).frozen? ⟨Bpx, 1, none⟩ = false := by simp only [World.frozen?_setCell]; exact px_f1
  clear px_0 px_f0 px_1 px_f1
  generalize hwn : ((v56.setCell ⟨Bpx, 0, none⟩ (.slice p3 R.length q3)).setCell ⟨Bpx, 1, none⟩ (.slice p4 Z.length q4)) = v57 at *
  clear hwn
  have sz57 : v56.heap.size ≤ v57.heap.size := hg.size
  replace f2_0 := fro_grow hg x2_0 f2_0 (fun g e => by (have e2 : Bpx = g := by simpa using e); omega)
  replace f2_1 := fro_grow hg x2_1 f2_1 (fun g e => by (have e2 : Bpx = g := by simpa using e); omega)
  replace pb_f0 := fro_grow hg pb_0 pb_f0 (fun g e => by (have e2 : Bpx = g := by simpa using e); omega)
  replace pb_f1 := fro_grow hg pb_1 pb_f1 (fun g e => by (have e2 : Bpx = g := by simpa using e); omega)
  replace pa_f0 := fro_grow hg pa_0 pa_f0 (fun g e => by (have e2 : Bpx = g := by simpa using e); omega)
  replace pa_f1 := fro_grow hg pa_1 pa_f1 (fun g e => by (have e2 : Bpx = g := by simpa using e); omega)
  replace x0_0 := cell_grow hg x0_0 (fun g e => by (have e2 : Bpx = g := by simpa using e); omega)
  replace x0_1 := cell_grow hg x0_1 (fun g e => by (have e2 : Bpx = g := by simpa using e); omega)
  replace x1_0 := cell_grow hg x1_0 (fun g e => by (have e2 : Bpx = g := by simpa using e); omega)
  replace x1_1 := cell_grow hg x1_1 (fun g e => by (have e2 : Bpx = g := by simpa using e); omega)
  replace x2_0 := cell_grow hg x2_0 (fun g e => by (have e2 : Bpx = g := by simpa using e); omega)
  replace x2_1 := cell_grow hg x2_1 (fun g e => by (have e2 : Bpx = g := by simpa using e); omega)
  replace pb_0 := cell_grow hg pb_0 (fun g e => by (have e2 : Bpx = g := by simpa using e); omega)
  replace pb_1 := cell_grow hg pb_1 (fun g e => by (have e2 : Bpx = g := by simpa using e); omega)
  replace pa_0 := cell_grow hg pa_0 (fun g e => by (have e2 : Bpx = g := by simpa using e); omega)
  replace pa_1 := cell_grow hg pa_1 (fun g e => by (have e2 : Bpx = g := by simpa using e); omega)
  replace HOR := Lib.hid (own_grow hg HOR.out (fun g e => by (have e2 : Bpx = g := by simpa using e); omega))
  replace HOL := Lib.hid (own_grow hg HOL.out (fun g e => by (have e2 : Bpx = g := by simpa using e); omega))
  have HBh57 := Lib.hid (HBh56.out.grown hg (by have := HBh56.out.size; omega) (fun g e => by (have e2 : Bpx = g := by simpa using e); omega))
  have px_0 := nx0
  have px_f0 := nf0
  have px_1 := nx1
  have px_f1 := nf1
  clear hg nx0 nf0 nx1 nf1
  refine hK.out _ _ ?_ (fun hHeld => ?_)
  · exact ⟨x0_0, x0_1, x1_0, x1_1⟩
  clear hK K
  try simp only [List.getElem_toArray, List.getElem_cons_succ, List.getElem_cons_zero, Act.put, List.setIfInBounds_toArray, List.set_cons_zero, List.set_cons_succ]
  refine wpAnyH_done (by kernel_rfl) ?_ _
  refine NoPanic.normal ?_
  clear hHeld
  have hg9 := HRD.out v57 _ _ _ _ HOR.out HBh57.out
  have hi9 := HZD.out v57 _ _ _ _ HOL.out
  go_wp2_with fail
  refine (HCHG.out _ _ _ _ _ hg9 hi9).mono ?_
  rintro e va ⟨pv, lv, rfl, ho, hb⟩
  obtain ⟨p5, q5, rfl, hg5, _, _⟩ := ho.grid.slice
  obtain ⟨p6, q6, rfl, hi6, _, _⟩ := ho.ints.slice
  have sza : v57.heap.size ≤ va.heap.size := hb.size
  replace x2_0 := cell_below hb x2_0 (by omega)
  replace x2_1 := cell_below hb x2_1 (by omega)
  replace f2_0 := fro_below hb f2_0 (by omega)
  replace f2_1 := fro_below hb f2_1 (by omega)
  have HOS := Lib.hid ho
  have HBA := Lib.hid (HBh57.out.trans (hb.mono (by omega)))
  have HG5 := Lib.hid hg5
  have HI5 := Lib.hid hi6
  clear ho hb hg5 hi6 hg9 hi9
  go_wp2_with fail
  refine (HCK.out _ _ _ _ _ HG5.out HI5.out).mono ?_
  rintro e vb ⟨rfl, hb⟩
  have szb : va.heap.size ≤ vb.heap.size := hb.size
  replace x2_0 := cell_below hb x2_0 (by omega)
  replace x2_1 := cell_below hb x2_1 (by omega)
  replace f2_0 := fro_below hb f2_0 (by omega)
  replace f2_1 := fro_below hb f2_1 (by omega)
  have HOT := Lib.hid (HOS.out.below hb)
  have HBB := Lib.hid (HBA.out.trans (hb.mono (by omega)))
  clear hb
  go_wp2_with fail
  refine bodyPost_ret (v := .tuple #[.agg #[.slice p5 R.length q5, .slice p6 Z.length q6], .bool true]) (by simp [results, Try.results33, go_sem, x2_0, x2_1]) rfl ⟨_, _, rfl, ?_, ?_⟩
  · simp only [size_set]; exact ((HOT.out.set (by simp; omega) _).set (by simp; omega) _).mono (by omega) (by omega)
  · exact (HBB.out.setCell (by simp; omega) _).setCell (by simp; omega) _
end Go.Proofs.Ytoephhhofkmgjab.joinsy
