/- Several texts in one. -/
import Derived.BigQuiet
import Derived.Deep.DrawnRows
import Derived.Deep.RegionHeld3
import Derived.Test.YthohnnobahcdpaaBrG40
namespace Go.Proofs.Ythohnnobahcdpaa.bests
open Go.RowKit own pp nums range samplesv samplest dots both sides sidesof hefts wm bndp bndi stmp stmo stms stmt margin bestp
set_option linter.unusedVariables false
set_option linter.unusedSimpArgs false

def MadeP (zs : List Int) (b : Int) (w : World) (e : Ending) (w' : World) : Prop := ∃ v, e = .returned (.agg #[v, .int .i64 b]) ∧ OwnI w.heap.size w'.heap.size w' v zs ∧ Below w.heap.size w w'
set_option maxRecDepth 100000 in
set_option maxHeartbeats 1600000 in
theorem spec_best (a : Option Addr) (rows : List (List Int)) (c : Nat) (a' : Option Addr) (zs : List Int) (c' : Nat) (e : Option Addr) (hs : List Int) (d : Nat) (w : World) (hr : grid.Reads w a rows) (hz : ints.Reads .i64 w a' zs) (hh : ints.Reads .i64 w e hs) (hp : hpB rows zs = true) (hf : heftsB rows hs = true) :
    Calls Try.prog 80 #[.agg #[.slice a rows.length c, .slice a' zs.length c'], .slice e hs.length d] w (MadeP (bestX rows zs hs).1 (bestX rows zs hs).2 w) := by
  have hb9 := stump_at hp
  have hpos := stump_pos hp
  have hsz9 := stump_size hp
  have h16 := (row4 hp).2
  have hhp := (hpB_iff _ _).1 hp
  have HST := Lib.hid (fun (wa : World) (hB : Below w.heap.size w wa) => spec_stumps a rows c a' zs c' wa (hr.below hB) hhp.1 hhp.2)
  have HBX := Lib.hid (show bestX rows zs hs = (stumpL rows).getD (bJ (fW rows zs hs) (stumpL rows).length) ([], 0) from rfl)
  have HWM := Lib.hid (show ∀ (k : Nat), k < (stumpL rows).length → ∀ (p : Option Addr) (q : Nat) (wa : World), Below w.heap.size w wa → ints.Reads .i64 wa p ((stumpL rows).getD k ([], 0)).1 → Calls Try.prog 76 #[.agg #[.slice a rows.length c, .slice a' zs.length c'], .slice e hs.length d, .agg #[.slice p ((stumpL rows).getD k ([], 0)).1.length q, .int .i64 ((stumpL rows).getD k ([], 0)).2]] wa (RetN (fW rows zs hs k) wa) from fun k hk p q wa hB hp9 => spec_wm a rows c a' zs c' e hs d p ((stumpL rows).getD k ([], 0)).1 q ((stumpL rows).getD k ([], 0)).2 wa (hr.below hB) (hz.below hB) (hh.below hB) hp9 (by omega) (hb9 k hk) hf)
  have HWL := Lib.hid (fun k (hk : k < (stumpL rows).length) => ((planeB_iff _ _).1 ((bothB_iff _ _ _ _).1 (hb9 k hk)).2.1).2.1)
  clear hr hz hh hp hf hb9 hhp
  go_enter Try.func80, Try.ntmps80
  obtain ⟨wb1, hw1⟩ : ∃ wb1 : World, wb1 = w.alloc (.cells #[.slice a rows.length c, .slice a' zs.length c'] 38) := ⟨_, rfl⟩
  obtain ⟨wb2, hw2⟩ : ∃ wb2 : World, wb2 = wb1.alloc (.cells #[.slice none 0 0, .int .i64 0] 27) := ⟨_, rfl⟩
  have z1 : wb1.heap.size = w.heap.size + 1 := by rw [hw1]; simp
  have z2 : wb2.heap.size = w.heap.size + 2 := by rw [hw2]; simp; omega
  have x0_0 := (by rw [hw2]; exact cell_old _ (by rw [hw1]; exact cell_new _ _ _ rfl rfl : wb1.cell? ⟨w.heap.size, 0, none⟩ = some (.slice a rows.length c)) : wb2.cell? ⟨w.heap.size, 0, none⟩ = some (.slice a rows.length c))
  have x0_1 := (by rw [hw2]; exact cell_old _ (by rw [hw1]; exact cell_new _ _ _ rfl rfl : wb1.cell? ⟨w.heap.size, 1, none⟩ = some (.slice a' zs.length c')) : wb2.cell? ⟨w.heap.size, 1, none⟩ = some (.slice a' zs.length c'))
  have x1_0 := (by rw [hw2]; exact cell_new _ _ _ z1.symm rfl : wb2.cell? ⟨w.heap.size + 1, 0, none⟩ = some (.slice none 0 0))
  have x1_1 := (by rw [hw2]; exact cell_new _ _ _ z1.symm rfl : wb2.cell? ⟨w.heap.size + 1, 1, none⟩ = some (.int .i64 0))
  have HB0 := Lib.hid (show Below w.heap.size w wb2 by rw [hw2]; exact (show Below w.heap.size w wb1 by rw [hw1]; exact (Below.refl w.heap.size w).alloc (Nat.le_refl _) _).alloc (by omega) _)
  have s2 : w.heap.size + 2 ≤ wb2.heap.size := by omega
  have f1_0 := (by rw [hw2]; exact fro_new _ _ _ z1.symm : wb2.frozen? ⟨w.heap.size + 1, 0, none⟩ = false)
  have f1_1 := (by rw [hw2]; exact fro_new _ _ _ z1.symm : wb2.frozen? ⟨w.heap.size + 1, 1, none⟩ = false)
  have HZ2 := Lib.hid z2
  clear z1 z2
  go_wp2_with fail
  rw [← hw1, ← hw2]
  clear hw1 hw2
  refine (HST.out _ HB0.out).mono ?_
  rintro e9 w3 ⟨v9, rfl, ho, hb⟩
  obtain ⟨cs, hK⟩ := ho
  generalize hps : stumpL rows = ps at *
  generalize hff : fW rows zs hs = f at *
  have HBX2 := Lib.hid (show bestX rows zs hs = ps.getD (bJ f ps.length) ([], 0) by rw [HBX.out])
  clear hps hff HST HBX
  replace x0_0 := cell_below hb x0_0 (by omega)
  replace x0_1 := cell_below hb x0_1 (by omega)
  replace x1_0 := cell_below hb x1_0 (by omega)
  replace x1_1 := cell_below hb x1_1 (by omega)
  replace f1_0 := fro_below hb f1_0 (by omega)
  replace f1_1 := fro_below hb f1_1 (by omega)
  have s3 := hb.size
  have HB3 := Lib.hid (HB0.out.trans (hb.mono (by omega)))
  have HK := Lib.hid hK
  obtain ⟨pa, pc, hv9⟩ := hK.slice
  subst hv9
  obtain ⟨gs, hgs⟩ : ∃ gs, pa = some ⟨gs, 0, none⟩ := by
    rcases hK.1.2 with ⟨_, h9⟩ | ⟨g, cap, cur, e9, _⟩
    · omega
    · cases e9; exact ⟨g, rfl⟩
  subst hgs
  have hgl := (hK.1.lt gs rfl)
  have HAT := Lib.hid (show ∀ k, k < ps.length → (∃ p q, cs.getD k undef = .slice p (ps.getD k ([], 0)).1.length q) ∧ w3.cell? ⟨gs, k * 2, none⟩ = some (cs.getD k undef) ∧ w3.cell? ⟨gs, k * 2 + 1, none⟩ = some (.int .i64 (ps.getD k ([], 0)).2) ∧ OwnI wb2.heap.size w3.heap.size w3 (cs.getD k undef) (ps.getD k ([], 0)).1 from fun k hk => by
    have h1 := hK.2.2.2.1 k (by rw [List.length_map]; exact hk)
    rw [wsJ_getD] at h1
    obtain ⟨p, q, e9, _⟩ := h1.slice
    have h2 := flatJ_at cs ps hK.len k hk
    exact ⟨⟨p, q, e9⟩, by rw [hK.1.cellAt (k * 2) (by omega)]; exact h2.1, by rw [hK.1.cellAt (k * 2 + 1) (by omega)]; exact h2.2, h1⟩)
  clear hb hK
  obtain ⟨⟨p0, q0, e0⟩, hc0, hd0, _⟩ := HAT.out 0 hpos
  rw [Nat.zero_mul, e0] at hc0
  rw [Nat.zero_mul, Nat.zero_add] at hd0
  have i3 : (0 : Int) < (ps.length : Int) := by omega
  have HBA := below_alloc w3 (.cells #[.slice p0 (ps.getD 0 ([], 0)).1.length q0, .int .i64 (ps.getD 0 ([], 0)).2] 27)
  have y0 : (w3.alloc (.cells #[.slice p0 (ps.getD 0 ([], 0)).1.length q0, .int .i64 (ps.getD 0 ([], 0)).2] 27)).cell? ⟨w3.heap.size, 0, none⟩ = some (cs.getD 0 undef) := by rw [e0]; exact cell_new _ _ _ rfl rfl
  have y1 : (w3.alloc (.cells #[.slice p0 (ps.getD 0 ([], 0)).1.length q0, .int .i64 (ps.getD 0 ([], 0)).2] 27)).cell? ⟨w3.heap.size, 1, none⟩ = some (.int .i64 (ps.getD 0 ([], 0)).2) := cell_new _ _ _ rfl rfl
  have g0 : (w3.alloc (.cells #[.slice p0 (ps.getD 0 ([], 0)).1.length q0, .int .i64 (ps.getD 0 ([], 0)).2] 27)).frozen? ⟨w3.heap.size, 0, none⟩ = false := fro_new _ _ _ rfl
  have g1 : (w3.alloc (.cells #[.slice p0 (ps.getD 0 ([], 0)).1.length q0, .int .i64 (ps.getD 0 ([], 0)).2] 27)).frozen? ⟨w3.heap.size, 1, none⟩ = false := fro_new _ _ _ rfl
  have hsA := size_alloc' w3 (.cells #[.slice p0 (ps.getD 0 ([], 0)).1.length q0, .int .i64 (ps.getD 0 ([], 0)).2] 27)
  have HXA := Lib.hid HBA
  have HY := Lib.hid (And.intro y0 (And.intro y1 (And.intro g0 g1)))
  have hps999 := hsz9.1
  clear HBA y0 y1 g0 g1
  obtain ⟨bz, hbz⟩ : ∃ bz, (ps.getD 0 ([], 0)).2 = bz := ⟨_, rfl⟩
  have HB1Z := Lib.hid hbz
  rw [hbz] at hd0 hsA HXA HY
  clear hbz
  generalize hwz : (ps.getD 0 ([], 0)).1 = wz at *
  have HWZ := Lib.hid hwz
  clear hwz
  go_wp2_with fail
  obtain ⟨Bb, hBb⟩ : ∃ Bb : Nat, Bb = w3.heap.size := ⟨_, rfl⟩
  rw [← hBb] at HY hsA ⊢
  have HBb := Lib.hid hBb
  clear hBb
  generalize hwA : w3.alloc (.cells #[.slice p0 wz.length q0, .int .i64 bz] 27) = wA at *
  clear hwA
  obtain ⟨y0, y1, g0, g1⟩ := HY.out
  clear HY
  go_loopw [7] (fun i wr => ∃ k : Nat, 1 ≤ k ∧ k ≤ ps.length ∧ i = .int .i64 k ∧ wr.cell? ⟨Bb, 0, none⟩ = some (cs.getD (bJ f k) undef) ∧ wr.cell? ⟨Bb, 1, none⟩ = some (.int .i64 (ps.getD (bJ f k) ([], 0)).2) ∧ wr.frozen? ⟨Bb, 0, none⟩ = false ∧ wr.frozen? ⟨Bb, 1, none⟩ = false ∧ Below Bb w3 wr ∧ wA.heap.size ≤ wr.heap.size) (fun i _ => ps.length - (intOf i).toNat)
  case atStart => exact ⟨1, Nat.le_refl _, hpos, rfl, by rw [bJ_one]; exact y0, by rw [bJ_one, HB1Z.out]; exact y1, g0, g1, by rw [HBb.out]; exact HXA.out, Nat.le_refl _⟩
  case round =>
    obtain ⟨k, hk1, hk, rfl, y0, y1, g0, g1, hbel, hsA2⟩ := hrel
    have hB3 : Below w3.heap.size w3 wr := by rw [← HBb.out]; exact hbel
    have hs39 := hB3.size
    by_cases hlt : k < ps.length
    · have hjl := bJ_lt f k hk1
      obtain ⟨⟨pk, qk, ek⟩, hck, hdk, hok⟩ := HAT.out k hlt
      obtain ⟨⟨pj, qj, ej⟩, _, _, hoj⟩ := HAT.out (bJ f k) (by omega)
      have hok2 := hok.below hB3
      have hoj2 := hoj.below hB3
      rw [ek] at hck hok2
      rw [ej] at hoj2
      have Y0 := y0
      rw [ej] at y0
      replace x0_0 := cell_below hB3 x0_0 (by omega)
      replace x0_1 := cell_below hB3 x0_1 (by omega)
      replace hck := cell_below hB3 hck (by omega)
      replace hdk := cell_below hB3 hdk (by omega)
      have hcj := y0
      have hdj := y1
      have HALL := Lib.hid (HB3.out.trans (hB3.mono (by have := HB3.out.size; omega)))
      have HCK := Lib.hid (fun (wa : World) (hB : Below wr.heap.size wr wa) => HWM.out k hlt pk qk wa (HALL.out.trans (hB.mono HALL.out.size)) (hok2.reads.below hB))
      have HCJ := Lib.hid (fun (wa : World) (hB : Below wr.heap.size wr wa) => HWM.out (bJ f k) (by omega) pj qj wa (HALL.out.trans (hB.mono HALL.out.size)) (hoj2.reads.below hB))
      have HRB := Lib.hid hbel
      have HCE := Lib.hid (And.intro ek ej)
      have HHIT := Lib.hid (fun (h : f k < f (bJ f k)) => bJ_hit h)
      have HMIS := Lib.hid (fun (h : ¬ f k < f (bJ f k)) => bJ_miss h)
      have i1 : (0 : Int) ≤ (k : Int) := by omega
      have i2 : (k : Int) < (ps.length : Int) := by omega
      have HEK := Lib.hid (show ∀ X : List Int, X = (ps.getD k ([], 0)).1 → cs.getD k undef = .slice pk X.length qk from fun X hX => by rw [hX]; exact ek)
      obtain ⟨bk, hbk⟩ : ∃ bk, (ps.getD k ([], 0)).2 = bk := ⟨_, rfl⟩
      obtain ⟨wk, hwk⟩ : ∃ wk, (ps.getD k ([], 0)).1 = wk := ⟨_, rfl⟩
      rw [hbk] at hdk HCK
      rw [hwk] at hck HCK
      have HNXT := Lib.hid (And.intro hbk hwk)
      clear hbel hB3 hok hoj hok2 hoj2 hjl ek ej hbk hwk y1 Y0
      generalize bJ f k = jj at *
      generalize hbj9 : (ps.getD jj ([], 0)).2 = bj at *
      have HBJ2 := Lib.hid hbj9
      clear hbj9
      generalize (ps.getD jj ([], 0)).1 = wj at *
      generalize f k = fk at *
      generalize f jj = fj at *
      by_cases hcmp : fk < fj
      · have gg : decide (fk < fj) = true := by simpa using hcmp
        have HBJ := Lib.hid (HHIT.out hcmp)
        clear hcmp HHIT HMIS
        go_wp2_with fail
        refine wp_region_noPanic ?_
        refine wp_region_held_drew (S := fun w' => w'.cell? ⟨w.heap.size, 0, none⟩ = some (.slice a rows.length c) ∧ w'.cell? ⟨w.heap.size, 1, none⟩ = some (.slice a' zs.length c') ∧ w'.cell? ⟨gs, k * 2, none⟩ = some (.slice pk wk.length qk) ∧ w'.cell? ⟨gs, k * 2 + 1, none⟩ = some (.int .i64 bk) ∧ w'.cell? ⟨Bb, 0, none⟩ = some (.slice pj wj.length qj) ∧ w'.cell? ⟨Bb, 1, none⟩ = some (.int .i64 bj)) (by kernel_rfl) ?_ (fun hHeld => ?_)
        · exact ⟨x0_0, x0_1, hck, hdk, hcj, hdj⟩
        refine wpAnyH_take (i := 0) (v := ?_) rfl (by kernel_rfl) (by kernel_rfl) (by kernel_rfl) (fun _ _ _ h => h) (Or.inl ⟨by rfl, ?_⟩) (by assumption) ?_
        rotate_left
        · intro w9 hSw; (try dsimp only at hSw); go_simp; try with_reducible rfl
        try simp only [List.getElem_toArray, List.getElem_cons_succ, List.getElem_cons_zero, Act.put, List.setIfInBounds_toArray, List.set_cons_zero, List.set_cons_succ]
        refine wpAnyH_take (i := 1) (v := ?_) rfl (by kernel_rfl) (by kernel_rfl) (by kernel_rfl) (fun _ _ _ h => h) (Or.inl ⟨by rfl, ?_⟩) (by assumption) ?_
        rotate_left
        · intro w9 hSw; (try dsimp only at hSw); go_simp; try with_reducible rfl
        try simp only [List.getElem_toArray, List.getElem_cons_succ, List.getElem_cons_zero, Act.put, List.setIfInBounds_toArray, List.set_cons_zero, List.set_cons_succ]
        refine wpAnyH_take (i := 2) (v := ?_) rfl (by kernel_rfl) (by kernel_rfl) (by kernel_rfl) (fun _ _ _ h => h) (Or.inl ⟨by rfl, ?_⟩) (by assumption) ?_
        rotate_left
        · intro w9 hSw; (try dsimp only at hSw); go_simp; try with_reducible rfl
        try simp only [List.getElem_toArray, List.getElem_cons_succ, List.getElem_cons_zero, Act.put, List.setIfInBounds_toArray, List.set_cons_zero, List.set_cons_succ]
        refine wpAnyH_take (i := 3) (v := ?_) rfl (by kernel_rfl) (by kernel_rfl) (by kernel_rfl) (fun _ _ _ h => h) (Or.inl ⟨by rfl, ?_⟩) (by assumption) ?_
        rotate_left
        · intro w9 hSw; (try dsimp only at hSw); go_simp; try with_reducible rfl
        try simp only [List.getElem_toArray, List.getElem_cons_succ, List.getElem_cons_zero, Act.put, List.setIfInBounds_toArray, List.set_cons_zero, List.set_cons_succ]
        refine wpAnyH_take (i := 4) (v := ?_) rfl (by kernel_rfl) (by kernel_rfl) (by kernel_rfl) (fun _ _ _ h => h) (Or.inl ⟨by rfl, ?_⟩) (by assumption) ?_
        rotate_left
        · intro w9 hSw; (try dsimp only at hSw); go_simp; try with_reducible rfl
        try simp only [List.getElem_toArray, List.getElem_cons_succ, List.getElem_cons_zero, Act.put, List.setIfInBounds_toArray, List.set_cons_zero, List.set_cons_succ]
        refine wpAnyH_take (i := 5) (v := ?_) rfl (by kernel_rfl) (by kernel_rfl) (by kernel_rfl) (fun _ _ _ h => h) (Or.inl ⟨by rfl, ?_⟩) (by assumption) ?_
        rotate_left
        · intro w9 hSw; (try dsimp only at hSw); go_simp; try with_reducible rfl
        try simp only [List.getElem_toArray, List.getElem_cons_succ, List.getElem_cons_zero, Act.put, List.setIfInBounds_toArray, List.set_cons_zero, List.set_cons_succ]
        refine wpAnyH_take (i := 7) (v := ?_) rfl (by kernel_rfl) (by kernel_rfl) (by kernel_rfl) (fun _ _ _ h => h) (Or.inl ⟨by rfl, ?_⟩) (by assumption) ?_
        rotate_left
        · intro w9 hSw; (try dsimp only at hSw); go_simp; try with_reducible rfl
        try simp only [List.getElem_toArray, List.getElem_cons_succ, List.getElem_cons_zero, Act.put, List.setIfInBounds_toArray, List.set_cons_zero, List.set_cons_succ]
        refine wpAnyH_take (i := 8) (v := ?_) rfl (by kernel_rfl) (by kernel_rfl) (by kernel_rfl) (fun _ _ _ h => h) (Or.inl ⟨by rfl, ?_⟩) (by assumption) ?_
        rotate_left
        · intro w9 hSw; (try dsimp only at hSw); go_simp; try with_reducible rfl
        try simp only [List.getElem_toArray, List.getElem_cons_succ, List.getElem_cons_zero, Act.put, List.setIfInBounds_toArray, List.set_cons_zero, List.set_cons_succ]
        refine wpAnyH_take (i := 9) (v := ?_) rfl (by kernel_rfl) (by kernel_rfl) (by kernel_rfl) (fun _ _ _ h => h) (Or.inl ⟨by rfl, ?_⟩) (by assumption) ?_
        rotate_left
        · intro w9 hSw; (try dsimp only at hSw); go_simp; try with_reducible rfl
        try simp only [List.getElem_toArray, List.getElem_cons_succ, List.getElem_cons_zero, Act.put, List.setIfInBounds_toArray, List.set_cons_zero, List.set_cons_succ]
        refine wpAnyH_ready (rs := [6]) (by kernel_rfl) (by simp) ?_
        refine AllReadyH.cons rfl (fun K hK => ?_) AllReadyH.nil
        clear hHeld
        go_simp
        refine (HCK.out _ (Below.refl _ _).drew).mono ?_
        rintro e v1 ⟨rfl, hb1⟩
        have HC1 := Lib.hid ((Below.refl wr.heap.size wr).drew.trans hb1)
        have hs1 := HC1.out.size
        have m0 := cell_below HC1.out x0_0 (by omega)
        have m1 := cell_below HC1.out x0_1 (by omega)
        have m2 := cell_below HC1.out hck (by omega)
        have m3 := cell_below HC1.out hdk (by omega)
        have m4 := cell_below HC1.out hcj (by omega)
        have m5 := cell_below HC1.out hdj (by omega)
        clear hb1
        refine hK.out _ _ ?_ (fun hHeld => ?_)
        · exact ⟨m0, m1, m2, m3, m4, m5⟩
        clear hK K
        try simp only [List.getElem_toArray, List.getElem_cons_succ, List.getElem_cons_zero, Act.put, List.setIfInBounds_toArray, List.set_cons_zero, List.set_cons_succ]
        refine wpAnyH_ready (rs := [10]) (by kernel_rfl) (by simp) ?_
        refine AllReadyH.cons rfl (fun K hK => ?_) AllReadyH.nil
        clear hHeld
        go_simp
        refine (HCJ.out _ HC1.out).mono ?_
        rintro e v2 ⟨rfl, hb2⟩
        have HC2 := Lib.hid (HC1.out.trans (hb2.mono hs1))
        have hs2 := HC2.out.size
        have n0 := cell_below hb2 m0 (by omega)
        have n1 := cell_below hb2 m1 (by omega)
        have n2 := cell_below hb2 m2 (by omega)
        have n3 := cell_below hb2 m3 (by omega)
        have n4 := cell_below hb2 m4 (by omega)
        have n5 := cell_below hb2 m5 (by omega)
        clear hb2
        refine hK.out _ _ ?_ (fun hHeld => ?_)
        · exact ⟨n0, n1, n2, n3, n4, n5⟩
        clear hK K
        try simp only [List.getElem_toArray, List.getElem_cons_succ, List.getElem_cons_zero, Act.put, List.setIfInBounds_toArray, List.set_cons_zero, List.set_cons_succ]
        refine wpAnyH_take (i := 11) (v := ?_) rfl (by kernel_rfl) (by kernel_rfl) (by kernel_rfl) (fun _ _ _ h => h) (Or.inl ⟨by rfl, ?_⟩) (by assumption) ?_
        rotate_left
        · intro w9 hSw; (try dsimp only at hSw); go_simp; try with_reducible rfl
        try simp only [List.getElem_toArray, List.getElem_cons_succ, List.getElem_cons_zero, Act.put, List.setIfInBounds_toArray, List.set_cons_zero, List.set_cons_succ]
        refine wpAnyH_done (by kernel_rfl) ?_ _
        refine NoPanic.normal ?_
        clear hHeld
        have q0' := fro_below HC2.out g0 (by omega)
        have q1' := fro_below HC2.out g1 (by omega)
        have HF2 := Lib.hid (HRB.out.trans (HC2.out.mono (by omega)))
        go_wp2_with fail
        go_roundw
        case rel =>
          refine ⟨k + 1, by omega, by omega, by go_num, ?_, ?_, ?_, ?_, ?_, ?_⟩
          · rw [HBJ.out, HCE.out.1, HNXT.out.2]
            exact (World.cell?_setCell_other _ _ _ _ (by simp)).trans (World.cell?_setCell_same _ _ _ n4)
          · rw [HBJ.out, HNXT.out.1]
            exact World.cell?_setCell_same _ _ _ ((World.cell?_setCell_other _ _ _ _ (by simp)).trans n5)
          · simp only [World.frozen?_setCell]; exact q0'
          · simp only [World.frozen?_setCell]; exact q1'
          · exact (HF2.out.setCell (Nat.le_refl _) _).setCell (Nat.le_refl _) _
          · rw [size_set, size_set]; omega
        case measure => simp [intOf]; omega
      · have gg : decide (fk < fj) = false := by simpa using hcmp
        have HBJ := Lib.hid (HMIS.out hcmp)
        clear hcmp HHIT HMIS
        go_wp2_with fail
        refine wp_region_noPanic ?_
        refine wp_region_held_drew (S := fun w' => w'.cell? ⟨w.heap.size, 0, none⟩ = some (.slice a rows.length c) ∧ w'.cell? ⟨w.heap.size, 1, none⟩ = some (.slice a' zs.length c') ∧ w'.cell? ⟨gs, k * 2, none⟩ = some (.slice pk wk.length qk) ∧ w'.cell? ⟨gs, k * 2 + 1, none⟩ = some (.int .i64 bk) ∧ w'.cell? ⟨Bb, 0, none⟩ = some (.slice pj wj.length qj) ∧ w'.cell? ⟨Bb, 1, none⟩ = some (.int .i64 bj)) (by kernel_rfl) ?_ (fun hHeld => ?_)
        · exact ⟨x0_0, x0_1, hck, hdk, hcj, hdj⟩
        refine wpAnyH_take (i := 0) (v := ?_) rfl (by kernel_rfl) (by kernel_rfl) (by kernel_rfl) (fun _ _ _ h => h) (Or.inl ⟨by rfl, ?_⟩) (by assumption) ?_
        rotate_left
        · intro w9 hSw; (try dsimp only at hSw); go_simp; try with_reducible rfl
        try simp only [List.getElem_toArray, List.getElem_cons_succ, List.getElem_cons_zero, Act.put, List.setIfInBounds_toArray, List.set_cons_zero, List.set_cons_succ]
        refine wpAnyH_take (i := 1) (v := ?_) rfl (by kernel_rfl) (by kernel_rfl) (by kernel_rfl) (fun _ _ _ h => h) (Or.inl ⟨by rfl, ?_⟩) (by assumption) ?_
        rotate_left
        · intro w9 hSw; (try dsimp only at hSw); go_simp; try with_reducible rfl
        try simp only [List.getElem_toArray, List.getElem_cons_succ, List.getElem_cons_zero, Act.put, List.setIfInBounds_toArray, List.set_cons_zero, List.set_cons_succ]
        refine wpAnyH_take (i := 2) (v := ?_) rfl (by kernel_rfl) (by kernel_rfl) (by kernel_rfl) (fun _ _ _ h => h) (Or.inl ⟨by rfl, ?_⟩) (by assumption) ?_
        rotate_left
        · intro w9 hSw; (try dsimp only at hSw); go_simp; try with_reducible rfl
        try simp only [List.getElem_toArray, List.getElem_cons_succ, List.getElem_cons_zero, Act.put, List.setIfInBounds_toArray, List.set_cons_zero, List.set_cons_succ]
        refine wpAnyH_take (i := 3) (v := ?_) rfl (by kernel_rfl) (by kernel_rfl) (by kernel_rfl) (fun _ _ _ h => h) (Or.inl ⟨by rfl, ?_⟩) (by assumption) ?_
        rotate_left
        · intro w9 hSw; (try dsimp only at hSw); go_simp; try with_reducible rfl
        try simp only [List.getElem_toArray, List.getElem_cons_succ, List.getElem_cons_zero, Act.put, List.setIfInBounds_toArray, List.set_cons_zero, List.set_cons_succ]
        refine wpAnyH_take (i := 4) (v := ?_) rfl (by kernel_rfl) (by kernel_rfl) (by kernel_rfl) (fun _ _ _ h => h) (Or.inl ⟨by rfl, ?_⟩) (by assumption) ?_
        rotate_left
        · intro w9 hSw; (try dsimp only at hSw); go_simp; try with_reducible rfl
        try simp only [List.getElem_toArray, List.getElem_cons_succ, List.getElem_cons_zero, Act.put, List.setIfInBounds_toArray, List.set_cons_zero, List.set_cons_succ]
        refine wpAnyH_take (i := 5) (v := ?_) rfl (by kernel_rfl) (by kernel_rfl) (by kernel_rfl) (fun _ _ _ h => h) (Or.inl ⟨by rfl, ?_⟩) (by assumption) ?_
        rotate_left
        · intro w9 hSw; (try dsimp only at hSw); go_simp; try with_reducible rfl
        try simp only [List.getElem_toArray, List.getElem_cons_succ, List.getElem_cons_zero, Act.put, List.setIfInBounds_toArray, List.set_cons_zero, List.set_cons_succ]
        refine wpAnyH_take (i := 7) (v := ?_) rfl (by kernel_rfl) (by kernel_rfl) (by kernel_rfl) (fun _ _ _ h => h) (Or.inl ⟨by rfl, ?_⟩) (by assumption) ?_
        rotate_left
        · intro w9 hSw; (try dsimp only at hSw); go_simp; try with_reducible rfl
        try simp only [List.getElem_toArray, List.getElem_cons_succ, List.getElem_cons_zero, Act.put, List.setIfInBounds_toArray, List.set_cons_zero, List.set_cons_succ]
        refine wpAnyH_take (i := 8) (v := ?_) rfl (by kernel_rfl) (by kernel_rfl) (by kernel_rfl) (fun _ _ _ h => h) (Or.inl ⟨by rfl, ?_⟩) (by assumption) ?_
        rotate_left
        · intro w9 hSw; (try dsimp only at hSw); go_simp; try with_reducible rfl
        try simp only [List.getElem_toArray, List.getElem_cons_succ, List.getElem_cons_zero, Act.put, List.setIfInBounds_toArray, List.set_cons_zero, List.set_cons_succ]
        refine wpAnyH_take (i := 9) (v := ?_) rfl (by kernel_rfl) (by kernel_rfl) (by kernel_rfl) (fun _ _ _ h => h) (Or.inl ⟨by rfl, ?_⟩) (by assumption) ?_
        rotate_left
        · intro w9 hSw; (try dsimp only at hSw); go_simp; try with_reducible rfl
        try simp only [List.getElem_toArray, List.getElem_cons_succ, List.getElem_cons_zero, Act.put, List.setIfInBounds_toArray, List.set_cons_zero, List.set_cons_succ]
        refine wpAnyH_ready (rs := [6]) (by kernel_rfl) (by simp) ?_
        refine AllReadyH.cons rfl (fun K hK => ?_) AllReadyH.nil
        clear hHeld
        go_simp
        refine (HCK.out _ (Below.refl _ _).drew).mono ?_
        rintro e v1 ⟨rfl, hb1⟩
        have HC1 := Lib.hid ((Below.refl wr.heap.size wr).drew.trans hb1)
        have hs1 := HC1.out.size
        have m0 := cell_below HC1.out x0_0 (by omega)
        have m1 := cell_below HC1.out x0_1 (by omega)
        have m2 := cell_below HC1.out hck (by omega)
        have m3 := cell_below HC1.out hdk (by omega)
        have m4 := cell_below HC1.out hcj (by omega)
        have m5 := cell_below HC1.out hdj (by omega)
        clear hb1
        refine hK.out _ _ ?_ (fun hHeld => ?_)
        · exact ⟨m0, m1, m2, m3, m4, m5⟩
        clear hK K
        try simp only [List.getElem_toArray, List.getElem_cons_succ, List.getElem_cons_zero, Act.put, List.setIfInBounds_toArray, List.set_cons_zero, List.set_cons_succ]
        refine wpAnyH_ready (rs := [10]) (by kernel_rfl) (by simp) ?_
        refine AllReadyH.cons rfl (fun K hK => ?_) AllReadyH.nil
        clear hHeld
        go_simp
        refine (HCJ.out _ HC1.out).mono ?_
        rintro e v2 ⟨rfl, hb2⟩
        have HC2 := Lib.hid (HC1.out.trans (hb2.mono hs1))
        have hs2 := HC2.out.size
        have n0 := cell_below hb2 m0 (by omega)
        have n1 := cell_below hb2 m1 (by omega)
        have n2 := cell_below hb2 m2 (by omega)
        have n3 := cell_below hb2 m3 (by omega)
        have n4 := cell_below hb2 m4 (by omega)
        have n5 := cell_below hb2 m5 (by omega)
        clear hb2
        refine hK.out _ _ ?_ (fun hHeld => ?_)
        · exact ⟨n0, n1, n2, n3, n4, n5⟩
        clear hK K
        try simp only [List.getElem_toArray, List.getElem_cons_succ, List.getElem_cons_zero, Act.put, List.setIfInBounds_toArray, List.set_cons_zero, List.set_cons_succ]
        refine wpAnyH_take (i := 11) (v := ?_) rfl (by kernel_rfl) (by kernel_rfl) (by kernel_rfl) (fun _ _ _ h => h) (Or.inl ⟨by rfl, ?_⟩) (by assumption) ?_
        rotate_left
        · intro w9 hSw; (try dsimp only at hSw); go_simp; try with_reducible rfl
        try simp only [List.getElem_toArray, List.getElem_cons_succ, List.getElem_cons_zero, Act.put, List.setIfInBounds_toArray, List.set_cons_zero, List.set_cons_succ]
        refine wpAnyH_done (by kernel_rfl) ?_ _
        refine NoPanic.normal ?_
        clear hHeld
        have q0' := fro_below HC2.out g0 (by omega)
        have q1' := fro_below HC2.out g1 (by omega)
        have HF2 := Lib.hid (HRB.out.trans (HC2.out.mono (by omega)))
        go_wp2_with fail
        go_roundw
        case rel => exact ⟨k + 1, by omega, by omega, by go_num, by rw [HBJ.out, HCE.out.2]; exact n4, by rw [HBJ.out, HBJ2.out]; exact n5, q0', q1', HF2.out, by omega⟩
        case measure => simp [intOf]; omega
    · obtain rfl : k = ps.length := by omega
      have hjl := bJ_lt f ps.length hpos
      obtain ⟨⟨pj, qj, ej⟩, _, _, hoj⟩ := HAT.out (bJ f ps.length) hjl
      have hoj2 := hoj.below hB3
      rw [ej] at y0 hoj2
      replace x1_0 := cell_below hB3 x1_0 (by omega)
      replace x1_1 := cell_below hB3 x1_1 (by omega)
      replace f1_0 := fro_below hB3 f1_0 (by omega)
      replace f1_1 := fro_below hB3 f1_1 (by omega)
      have HALL := Lib.hid (HB3.out.trans (hB3.mono (by have := HB3.out.size; omega)))
      have HOJ := Lib.hid hoj2
      clear hbel hB3 hoj hoj2 g0 g1
      generalize bJ f ps.length = jj at *
      have HFB := Lib.hid (show bestX rows zs hs = ((ps.getD jj ([], 0)).1, (ps.getD jj ([], 0)).2) from HBX2.out)
      generalize (ps.getD jj ([], 0)).2 = bj at *
      generalize (ps.getD jj ([], 0)).1 = wj at *
      have z2 : ((wr.setCell ⟨w.heap.size + 1, 0, none⟩ (.slice pj wj.length qj)).setCell ⟨w.heap.size + 1, 1, none⟩ (.int .i64 bj)).cell? ⟨w.heap.size + 1, 0, none⟩ = some (.slice pj wj.length qj) := (World.cell?_setCell_other _ _ _ _ (by simp)).trans (World.cell?_setCell_same _ _ _ x1_0)
      have z3 : ((wr.setCell ⟨w.heap.size + 1, 0, none⟩ (.slice pj wj.length qj)).setCell ⟨w.heap.size + 1, 1, none⟩ (.int .i64 bj)).cell? ⟨w.heap.size + 1, 1, none⟩ = some (.int .i64 bj) := World.cell?_setCell_same _ _ _ ((World.cell?_setCell_other _ _ _ _ (by simp)).trans x1_1)
      go_wp2_with fail
      refine bodyPost_ret (v := .agg #[.slice pj wj.length qj, .int .i64 bj]) (by simp [results, Try.results80, go_sem, z2, z3]) rfl ?_
      rw [HFB.out]
      refine ⟨_, rfl, ?_, ?_⟩
      · simp only [size_set]
        exact ((HOJ.out.set (by simp; omega) _).set (by simp; omega) _).mono (by omega) (by omega)
      · exact (HALL.out.setCell (by simp) _).setCell (by simp) _
end Go.Proofs.Ythohnnobahcdpaa.bests
