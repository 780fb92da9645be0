/- The walk of the model's LiftSample. -/
import Derived.Test.YtocbklmkphgkeaaMoveI
namespace Go.Proofs.Ytocbklmkphgkeaa.lifts
open Go.RowKit own own1 pp nums samplesv samplest samplefns rowscopy part moves
set_option linter.unusedVariables false
set_option linter.unusedSimpArgs false
attribute [local go_sem ↓] Go.wp_at_zero Go.wp_at_succ

/-- A point with one number more. -/
def lf (r : List Int) : List Int := r ++ [-1]
theorem lf_length (r : List Int) : (lf r).length = r.length + 1 := by simp [lf]
def lfB (rows : List (List Int)) (zs : List Int) : Bool := margin.hpB rows zs && decide ((rows.getD 0 []).length ≠ 4)
theorem lfB_iff (rows : List (List Int)) (zs : List Int) : lfB rows zs = true ↔ sampleB rows zs = true ∧ 0 < rows.length ∧ (rows.getD 0 []).length ≠ 4 := by simp [lfB, margin.hpB_iff, and_assoc]
theorem lf_map0 (rows : List (List Int)) (h : 0 < rows.length) : (rows.map lf).getD 0 [] = lf (rows.getD 0 []) := changed.map_getD lf rows 0 h
theorem lf_sample {rows : List (List Int)} {zs : List Int} (h : sampleB rows zs = true) (h0 : 0 < rows.length) (h4 : (rows.getD 0 []).length ≠ 4) : sampleB (rows.map lf) zs = true := by
  obtain ⟨s1, s2, s3, s4⟩ := (sampleB_iff _ _).1 h
  refine (sampleB_iff _ _).2 ⟨by simpa using s1, by simpa using s2, s3, ?_⟩
  unfold rowsB
  apply all_true _ []
  intro k hk
  rw [List.length_map] at hk
  rw [lf_map0 _ h0, changed.map_getD lf rows k hk, lf_length, lf_length]
  obtain ⟨a1, a2⟩ := row_ok h k hk
  obtain ⟨b1, b2, b3⟩ := (pointB_iff _).1 a1
  simp only [Bool.and_eq_true, decide_eq_true_eq]
  refine ⟨(pointB_iff _).2 ⟨by rw [lf_length]; omega, by rw [lf_length]; omega, ?_⟩, by omega⟩
  unfold numsB lf at *
  rw [List.all_append, b3]
  decide
theorem lf_not {rows : List (List Int)} {zs : List Int} (h0 : 0 < rows.length) (h4 : (rows.getD 0 []).length = 4) : sampleB (rows.map lf) zs = false := by
  cases h : sampleB (rows.map lf) zs
  · rfl
  · have := (row_ok h 0 (by simpa using h0)).1
    rw [lf_map0 _ h0] at this
    have := ((pointB_iff _).1 this).2.1
    rw [lf_length] at this
    omega
theorem Out.grown {lo B hi : Nat} {w w3 : World} {v l : Value} {cs : List Value} {rows : List (List Int)} {zs : List Int} {o : Option Nat} (h : Out lo B hi w v l cs rows zs) (hg : w.grownBy w3 o) (ho : ∀ g, o = some g → hi ≤ g) : Out lo B hi w3 v l cs rows zs := by
  have hb : ∀ g, g < hi → g < w.heap.size → w3.heap[g]? = w.heap[g]? := fun g h1 h2 => hg.block g h2 (fun e => by have := ho g e.symm; omega)
  exact ⟨ownsRow_block h.1 fun g hg' => hb g (h.2.1 g hg').2 (h.1.lt g hg').2, h.2.1, h.2.2.1.keep fun g _ h2 h3 _ => hb g h2 h3, ownsRow_block h.2.2.2.1 fun g hg' => hb g (h.2.2.2.2.1 g hg').2 (h.2.2.2.1.lt g hg').2, h.2.2.2.2⟩
set_option maxRecDepth 100000 in
set_option maxHeartbeats 4000000 in
theorem spec_no1 (a : Option Addr) (rows : List (List Int)) (c : Nat) (a' : Option Addr) (zs : List Int) (c' : Nat) (w : World) (hr : grid.Reads w a rows) (hz : ints.Reads .i64 w a' zs) (hn : rows.length ≤ 1048576) (hk : zs.length ≤ 1048576) (hm : ∀ r ∈ rows, r.length ≤ 1048576) (h : Hid (sampleB rows zs = false)) :
    Calls Try.prog 25 #[.agg #[.slice a rows.length c, .slice a' zs.length c']] w (RetSB [] [] false w) := by
  have HMM := Lib.hid hm
  clear hm
  have Hhr := Lib.hid hr
  have Hhz := Lib.hid hz
  clear hr hz
  go_enter Try.func25, Try.ntmps25
  go_wp2_with fail
  have x0_0 : (w.alloc (.cells #[.slice a rows.length c, .slice a' zs.length c'] 27)).cell? ⟨w.heap.size, 0, none⟩ = some (.slice a rows.length c) := cell_new _ _ _ (by simp) rfl
  have x0_1 : (w.alloc (.cells #[.slice a rows.length c, .slice a' zs.length c'] 27)).cell? ⟨w.heap.size, 1, none⟩ = some (.slice a' zs.length c') := cell_new _ _ _ (by simp) rfl
  have HB0 := Lib.hid (below_alloc w (.cells #[.slice a rows.length c, .slice a' zs.length c'] 27))
  replace x0_0 := cell_old (.cells #[.slice none 0 0, .slice none 0 0] 27) x0_0
  replace x0_1 := cell_old (.cells #[.slice none 0 0, .slice none 0 0] 27) x0_1
  have x1_0 : ((w.alloc (.cells #[.slice a rows.length c, .slice a' zs.length c'] 27)).alloc (.cells #[.slice none 0 0, .slice none 0 0] 27)).cell? ⟨w.heap.size + 1, 0, none⟩ = some (.slice none 0 0) := cell_new _ _ _ (by simp) rfl
  have x1_1 : ((w.alloc (.cells #[.slice a rows.length c, .slice a' zs.length c'] 27)).alloc (.cells #[.slice none 0 0, .slice none 0 0] 27)).cell? ⟨w.heap.size + 1, 1, none⟩ = some (.slice none 0 0) := cell_new _ _ _ (by simp) rfl
  have f1_0 : ((w.alloc (.cells #[.slice a rows.length c, .slice a' zs.length c'] 27)).alloc (.cells #[.slice none 0 0, .slice none 0 0] 27)).frozen? ⟨w.heap.size + 1, 0, none⟩ = false := fro_new _ _ _ (by simp)
  have f1_1 : ((w.alloc (.cells #[.slice a rows.length c, .slice a' zs.length c'] 27)).alloc (.cells #[.slice none 0 0, .slice none 0 0] 27)).frozen? ⟨w.heap.size + 1, 1, none⟩ = false := fro_new _ _ _ (by simp)
  replace HB0 := Lib.hid (HB0.out.alloc (by simp) (.cells #[.slice none 0 0, .slice none 0 0] 27))
  have s0 : w.heap.size + 2 ≤ ((w.alloc (.cells #[.slice a rows.length c, .slice a' zs.length c'] 27)).alloc (.cells #[.slice none 0 0, .slice none 0 0] 27)).heap.size := by simp
  generalize hw : ((w.alloc (.cells #[.slice a rows.length c, .slice a' zs.length c'] 27)).alloc (.cells #[.slice none 0 0, .slice none 0 0] 27)) = w0 at *
  clear hw
  have n0_0 : w.heap.size < w0.heap.size := by omega
  have n0_1 : w.heap.size + 1 < w0.heap.size := by omega
  refine (spec_sample a rows c a' zs c' _ (Hhr.out.below HB0.out) (Hhz.out.below HB0.out) hn hk HMM.out false h).mono ?_
  rintro e w1 ⟨rfl, hb⟩
  have s1 : w0.heap.size ≤ w1.heap.size := hb.size
  have n1_0 : w.heap.size < w1.heap.size := by omega
  have n1_1 : w.heap.size + 1 < w1.heap.size := by omega
  replace x0_0 := cell_below hb x0_0 (by omega)
  replace x0_1 := cell_below hb x0_1 (by omega)
  replace x1_0 := cell_below hb x1_0 (by omega)
  replace x1_1 := cell_below hb x1_1 (by omega)
  replace f1_0 := fro_below hb f1_0 (by omega)
  replace f1_1 := fro_below hb f1_1 (by omega)
  have HB1 := Lib.hid (HB0.out.trans (hb.mono (by omega)))
  clear hb
  go_wp2_with fail
  refine bodyPost_ret (v := .tuple #[.agg #[.slice none 0 0, .slice none 0 0], .bool false]) (by simp [results, Try.results25, go_sem, x1_0, x1_1]) rfl ⟨_, _, rfl, OwnS.of (OwnG.nil w.heap.size 0 _) (OwnI.nil w.heap.size 0 _) (.inl (Nat.zero_le _)) (Nat.le_refl _) (Nat.le_refl _) (Nat.zero_le _) (Nat.zero_le _), ?_⟩
  exact ((HB1.out.setCell (by simp) _).setCell (by simp) _)
set_option maxRecDepth 100000 in
set_option maxHeartbeats 4000000 in
theorem spec_no2 (a : Option Addr) (rows : List (List Int)) (c : Nat) (a' : Option Addr) (zs : List Int) (c' : Nat) (w : World) (hr : grid.Reads w a rows) (hz : ints.Reads .i64 w a' zs) (hn : rows.length ≤ 1048576) (hk : zs.length ≤ 1048576) (hm : ∀ r ∈ rows, r.length ≤ 1048576) (h1 : Hid (sampleB rows zs = true)) (h : rows.length = 0) :
    Calls Try.prog 25 #[.agg #[.slice a rows.length c, .slice a' zs.length c']] w (RetSB [] [] false w) := by
  have HMM := Lib.hid hm
  clear hm
  have g0 : ((rows.length : Int) == 0) = true := by rw [beq_iff_eq]; omega
  have H0 := Lib.hid h
  clear h
  have Hhr := Lib.hid hr
  have Hhz := Lib.hid hz
  clear hr hz
  go_enter Try.func25, Try.ntmps25
  go_wp2_with fail
  have x0_0 : (w.alloc (.cells #[.slice a rows.length c, .slice a' zs.length c'] 27)).cell? ⟨w.heap.size, 0, none⟩ = some (.slice a rows.length c) := cell_new _ _ _ (by simp) rfl
  have x0_1 : (w.alloc (.cells #[.slice a rows.length c, .slice a' zs.length c'] 27)).cell? ⟨w.heap.size, 1, none⟩ = some (.slice a' zs.length c') := cell_new _ _ _ (by simp) rfl
  have HB0 := Lib.hid (below_alloc w (.cells #[.slice a rows.length c, .slice a' zs.length c'] 27))
  replace x0_0 := cell_old (.cells #[.slice none 0 0, .slice none 0 0] 27) x0_0
  replace x0_1 := cell_old (.cells #[.slice none 0 0, .slice none 0 0] 27) x0_1
  have x1_0 : ((w.alloc (.cells #[.slice a rows.length c, .slice a' zs.length c'] 27)).alloc (.cells #[.slice none 0 0, .slice none 0 0] 27)).cell? ⟨w.heap.size + 1, 0, none⟩ = some (.slice none 0 0) := cell_new _ _ _ (by simp) rfl
  have x1_1 : ((w.alloc (.cells #[.slice a rows.length c, .slice a' zs.length c'] 27)).alloc (.cells #[.slice none 0 0, .slice none 0 0] 27)).cell? ⟨w.heap.size + 1, 1, none⟩ = some (.slice none 0 0) := cell_new _ _ _ (by simp) rfl
  have f1_0 : ((w.alloc (.cells #[.slice a rows.length c, .slice a' zs.length c'] 27)).alloc (.cells #[.slice none 0 0, .slice none 0 0] 27)).frozen? ⟨w.heap.size + 1, 0, none⟩ = false := fro_new _ _ _ (by simp)
  have f1_1 : ((w.alloc (.cells #[.slice a rows.length c, .slice a' zs.length c'] 27)).alloc (.cells #[.slice none 0 0, .slice none 0 0] 27)).frozen? ⟨w.heap.size + 1, 1, none⟩ = false := fro_new _ _ _ (by simp)
  replace HB0 := Lib.hid (HB0.out.alloc (by simp) (.cells #[.slice none 0 0, .slice none 0 0] 27))
  have s0 : w.heap.size + 2 ≤ ((w.alloc (.cells #[.slice a rows.length c, .slice a' zs.length c'] 27)).alloc (.cells #[.slice none 0 0, .slice none 0 0] 27)).heap.size := by simp
  generalize hw : ((w.alloc (.cells #[.slice a rows.length c, .slice a' zs.length c'] 27)).alloc (.cells #[.slice none 0 0, .slice none 0 0] 27)) = w0 at *
  clear hw
  have n0_0 : w.heap.size < w0.heap.size := by omega
  have n0_1 : w.heap.size + 1 < w0.heap.size := by omega
  refine (spec_sample a rows c a' zs c' _ (Hhr.out.below HB0.out) (Hhz.out.below HB0.out) hn hk HMM.out true h1).mono ?_
  rintro e w1 ⟨rfl, hb⟩
  have s1 : w0.heap.size ≤ w1.heap.size := hb.size
  have n1_0 : w.heap.size < w1.heap.size := by omega
  have n1_1 : w.heap.size + 1 < w1.heap.size := by omega
  replace x0_0 := cell_below hb x0_0 (by omega)
  replace x0_1 := cell_below hb x0_1 (by omega)
  replace x1_0 := cell_below hb x1_0 (by omega)
  replace x1_1 := cell_below hb x1_1 (by omega)
  replace f1_0 := fro_below hb f1_0 (by omega)
  replace f1_1 := fro_below hb f1_1 (by omega)
  have HB1 := Lib.hid (HB0.out.trans (hb.mono (by omega)))
  clear hb
  go_wp2_with fail
  refine bodyPost_ret (v := .tuple #[.agg #[.slice none 0 0, .slice none 0 0], .bool false]) (by simp [results, Try.results25, go_sem, x1_0, x1_1]) rfl ⟨_, _, rfl, OwnS.of (OwnG.nil w.heap.size 0 _) (OwnI.nil w.heap.size 0 _) (.inl (Nat.zero_le _)) (Nat.le_refl _) (Nat.le_refl _) (Nat.zero_le _) (Nat.zero_le _), ?_⟩
  exact ((HB1.out.setCell (by simp) _).setCell (by simp) _)
set_option maxRecDepth 100000 in
set_option maxHeartbeats 4000000 in
theorem spec_no3 (a : Option Addr) (rows : List (List Int)) (c : Nat) (a' : Option Addr) (zs : List Int) (c' : Nat) (w : World) (hr : grid.Reads w a rows) (hz : ints.Reads .i64 w a' zs) (hn : rows.length ≤ 1048576) (hk : zs.length ≤ 1048576) (hm : ∀ r ∈ rows, r.length ≤ 1048576) (h1 : Hid (sampleB rows zs = true)) (h0 : 0 < rows.length) (hl : (rows.getD 0 []).length = 4) :
    Calls Try.prog 25 #[.agg #[.slice a rows.length c, .slice a' zs.length c']] w (RetSB [] [] false w) := by
  have HMM := Lib.hid hm
  clear hm
  obtain ⟨bl, off, rp0, rq0, hab, hbl, hc, hpq, hrow⟩ := hr.at h0
  have HR0 := Lib.hid hc
  subst hab
  clear hpq hrow hc
  have g0 : ((rows.length : Int) == 0) = false := by rw [beq_eq_false_iff_ne]; omega
  have g1 : (((rows.getD 0 []).length : Int) == 4) = true := by rw [beq_iff_eq]; omega
  have H4 := Lib.hid hl
  clear hl
  generalize rows.getD 0 [] = r0 at *
  have Hhr := Lib.hid hr
  have Hhz := Lib.hid hz
  clear hr hz
  go_enter Try.func25, Try.ntmps25
  go_wp2_with fail
  have x0_0 : (w.alloc (.cells #[.slice (some ⟨bl, off, none⟩) rows.length c, .slice a' zs.length c'] 27)).cell? ⟨w.heap.size, 0, none⟩ = some (.slice (some ⟨bl, off, none⟩) rows.length c) := cell_new _ _ _ (by simp) rfl
  have x0_1 : (w.alloc (.cells #[.slice (some ⟨bl, off, none⟩) rows.length c, .slice a' zs.length c'] 27)).cell? ⟨w.heap.size, 1, none⟩ = some (.slice a' zs.length c') := cell_new _ _ _ (by simp) rfl
  have HB0 := Lib.hid (below_alloc w (.cells #[.slice (some ⟨bl, off, none⟩) rows.length c, .slice a' zs.length c'] 27))
  replace x0_0 := cell_old (.cells #[.slice none 0 0, .slice none 0 0] 27) x0_0
  replace x0_1 := cell_old (.cells #[.slice none 0 0, .slice none 0 0] 27) x0_1
  have x1_0 : ((w.alloc (.cells #[.slice (some ⟨bl, off, none⟩) rows.length c, .slice a' zs.length c'] 27)).alloc (.cells #[.slice none 0 0, .slice none 0 0] 27)).cell? ⟨w.heap.size + 1, 0, none⟩ = some (.slice none 0 0) := cell_new _ _ _ (by simp) rfl
  have x1_1 : ((w.alloc (.cells #[.slice (some ⟨bl, off, none⟩) rows.length c, .slice a' zs.length c'] 27)).alloc (.cells #[.slice none 0 0, .slice none 0 0] 27)).cell? ⟨w.heap.size + 1, 1, none⟩ = some (.slice none 0 0) := cell_new _ _ _ (by simp) rfl
  have f1_0 : ((w.alloc (.cells #[.slice (some ⟨bl, off, none⟩) rows.length c, .slice a' zs.length c'] 27)).alloc (.cells #[.slice none 0 0, .slice none 0 0] 27)).frozen? ⟨w.heap.size + 1, 0, none⟩ = false := fro_new _ _ _ (by simp)
  have f1_1 : ((w.alloc (.cells #[.slice (some ⟨bl, off, none⟩) rows.length c, .slice a' zs.length c'] 27)).alloc (.cells #[.slice none 0 0, .slice none 0 0] 27)).frozen? ⟨w.heap.size + 1, 1, none⟩ = false := fro_new _ _ _ (by simp)
  replace HB0 := Lib.hid (HB0.out.alloc (by simp) (.cells #[.slice none 0 0, .slice none 0 0] 27))
  have s0 : w.heap.size + 2 ≤ ((w.alloc (.cells #[.slice (some ⟨bl, off, none⟩) rows.length c, .slice a' zs.length c'] 27)).alloc (.cells #[.slice none 0 0, .slice none 0 0] 27)).heap.size := by simp
  generalize hw : ((w.alloc (.cells #[.slice (some ⟨bl, off, none⟩) rows.length c, .slice a' zs.length c'] 27)).alloc (.cells #[.slice none 0 0, .slice none 0 0] 27)) = w0 at *
  clear hw
  have n0_0 : w.heap.size < w0.heap.size := by omega
  have n0_1 : w.heap.size + 1 < w0.heap.size := by omega
  refine (spec_sample (some ⟨bl, off, none⟩) rows c a' zs c' _ (Hhr.out.below HB0.out) (Hhz.out.below HB0.out) hn hk HMM.out true h1).mono ?_
  rintro e w1 ⟨rfl, hb⟩
  have s1 : w0.heap.size ≤ w1.heap.size := hb.size
  have n1_0 : w.heap.size < w1.heap.size := by omega
  have n1_1 : w.heap.size + 1 < w1.heap.size := by omega
  replace x0_0 := cell_below hb x0_0 (by omega)
  replace x0_1 := cell_below hb x0_1 (by omega)
  replace x1_0 := cell_below hb x1_0 (by omega)
  replace x1_1 := cell_below hb x1_1 (by omega)
  replace f1_0 := fro_below hb f1_0 (by omega)
  replace f1_1 := fro_below hb f1_1 (by omega)
  have HB1 := Lib.hid (HB0.out.trans (hb.mono (by omega)))
  clear hb
  have hc0 := cell_below HB1.out HR0.out (by omega)
  rw [Nat.add_zero] at hc0
  go_wp2_with fail
  refine bodyPost_ret (v := .tuple #[.agg #[.slice none 0 0, .slice none 0 0], .bool false]) (by simp [results, Try.results25, go_sem, x1_0, x1_1]) rfl ⟨_, _, rfl, OwnS.of (OwnG.nil w.heap.size 0 _) (OwnI.nil w.heap.size 0 _) (.inl (Nat.zero_le _)) (Nat.le_refl _) (Nat.le_refl _) (Nat.zero_le _) (Nat.zero_le _), ?_⟩
  exact ((HB1.out.setCell (by simp) _).setCell (by simp) _)
set_option maxRecDepth 100000 in
set_option maxHeartbeats 4000000 in
theorem spec_full (a : Option Addr) (rows : List (List Int)) (c : Nat) (a' : Option Addr) (zs : List Int) (c' : Nat) (w : World) (hr : grid.Reads w a rows) (hz : ints.Reads .i64 w a' zs) (hn : rows.length ≤ 1048576) (hk : zs.length ≤ 1048576) (hm : ∀ r ∈ rows, r.length ≤ 1048576) (h1 : Hid (sampleB rows zs = true)) (h0 : 0 < rows.length) (hl : (rows.getD 0 []).length ≠ 4) :
    Calls Try.prog 25 #[.agg #[.slice a rows.length c, .slice a' zs.length c']] w (RetSB (rows.map lf) zs true w) := by
  have HMM := Lib.hid hm
  clear hm
  obtain ⟨i0, hi, hz0, hz1, hz2⟩ := info_parts infoInts
  obtain ⟨iI, hi', hz0', hz1', hz2'⟩ := info_parts own1.infoInt
  have hzl := ((sampleB_iff _ _).1 h1.out).2.1
  have s16 := ((sampleB_iff _ _).1 h1.out).1
  have HF := Lib.hid (show ∀ k, k < rows.length → (1 ≤ (rows.getD k []).length ∧ (rows.getD k []).length ≤ 4) from fun k hk => ⟨((pointB_iff _).1 (row_ok h1.out k hk).1).1, ((pointB_iff _).1 (row_ok h1.out k hk).1).2.1⟩)
  obtain ⟨bl, off, rp0, rq0, hab, hbl, hc, hpq, hrow⟩ := hr.at h0
  have HR0 := Lib.hid hc
  subst hab
  clear hpq hrow hc
  have g0 : ((rows.length : Int) == 0) = false := by rw [beq_eq_false_iff_ne]; omega
  have g1 : (((rows.getD 0 []).length : Int) == 4) = false := by rw [beq_eq_false_iff_ne]; omega
  have h0z : 0 < zs.length := by omega
  clear hl hzl
  generalize rows.getD 0 [] = r0 at *
  have Hhr := Lib.hid hr
  have Hhz := Lib.hid hz
  clear hr hz
  go_enter Try.func25, Try.ntmps25
  go_wp2_with fail
  have x0_0 : (w.alloc (.cells #[.slice (some ⟨bl, off, none⟩) rows.length c, .slice a' zs.length c'] 27)).cell? ⟨w.heap.size, 0, none⟩ = some (.slice (some ⟨bl, off, none⟩) rows.length c) := cell_new _ _ _ (by simp) rfl
  have x0_1 : (w.alloc (.cells #[.slice (some ⟨bl, off, none⟩) rows.length c, .slice a' zs.length c'] 27)).cell? ⟨w.heap.size, 1, none⟩ = some (.slice a' zs.length c') := cell_new _ _ _ (by simp) rfl
  have HB0 := Lib.hid (below_alloc w (.cells #[.slice (some ⟨bl, off, none⟩) rows.length c, .slice a' zs.length c'] 27))
  replace x0_0 := cell_old (.cells #[.slice none 0 0, .slice none 0 0] 27) x0_0
  replace x0_1 := cell_old (.cells #[.slice none 0 0, .slice none 0 0] 27) x0_1
  have x1_0 : ((w.alloc (.cells #[.slice (some ⟨bl, off, none⟩) rows.length c, .slice a' zs.length c'] 27)).alloc (.cells #[.slice none 0 0, .slice none 0 0] 27)).cell? ⟨w.heap.size + 1, 0, none⟩ = some (.slice none 0 0) := cell_new _ _ _ (by simp) rfl
  have x1_1 : ((w.alloc (.cells #[.slice (some ⟨bl, off, none⟩) rows.length c, .slice a' zs.length c'] 27)).alloc (.cells #[.slice none 0 0, .slice none 0 0] 27)).cell? ⟨w.heap.size + 1, 1, none⟩ = some (.slice none 0 0) := cell_new _ _ _ (by simp) rfl
  have f1_0 : ((w.alloc (.cells #[.slice (some ⟨bl, off, none⟩) rows.length c, .slice a' zs.length c'] 27)).alloc (.cells #[.slice none 0 0, .slice none 0 0] 27)).frozen? ⟨w.heap.size + 1, 0, none⟩ = false := fro_new _ _ _ (by simp)
  have f1_1 : ((w.alloc (.cells #[.slice (some ⟨bl, off, none⟩) rows.length c, .slice a' zs.length c'] 27)).alloc (.cells #[.slice none 0 0, .slice none 0 0] 27)).frozen? ⟨w.heap.size + 1, 1, none⟩ = false := fro_new _ _ _ (by simp)
  replace HB0 := Lib.hid (HB0.out.alloc (by simp) (.cells #[.slice none 0 0, .slice none 0 0] 27))
  have s0 : w.heap.size + 2 ≤ ((w.alloc (.cells #[.slice (some ⟨bl, off, none⟩) rows.length c, .slice a' zs.length c'] 27)).alloc (.cells #[.slice none 0 0, .slice none 0 0] 27)).heap.size := by simp
  generalize hw : ((w.alloc (.cells #[.slice (some ⟨bl, off, none⟩) rows.length c, .slice a' zs.length c'] 27)).alloc (.cells #[.slice none 0 0, .slice none 0 0] 27)) = w0 at *
  clear hw
  have n0_0 : w.heap.size < w0.heap.size := by omega
  have n0_1 : w.heap.size + 1 < w0.heap.size := by omega
  refine (spec_sample (some ⟨bl, off, none⟩) rows c a' zs c' _ (Hhr.out.below HB0.out) (Hhz.out.below HB0.out) hn hk HMM.out true h1).mono ?_
  rintro e w1 ⟨rfl, hb⟩
  have s1 : w0.heap.size ≤ w1.heap.size := hb.size
  have n1_0 : w.heap.size < w1.heap.size := by omega
  have n1_1 : w.heap.size + 1 < w1.heap.size := by omega
  replace x0_0 := cell_below hb x0_0 (by omega)
  replace x0_1 := cell_below hb x0_1 (by omega)
  replace x1_0 := cell_below hb x1_0 (by omega)
  replace x1_1 := cell_below hb x1_1 (by omega)
  replace f1_0 := fro_below hb f1_0 (by omega)
  replace f1_1 := fro_below hb f1_1 (by omega)
  have HB1 := Lib.hid (HB0.out.trans (hb.mono (by omega)))
  clear hb
  have hc0 := cell_below HB1.out HR0.out (by omega)
  rw [Nat.add_zero] at hc0
  go_wp2_with fail
  have HX0 := Lib.hid x0_0
  have HX1 := Lib.hid (show w1.cell? ⟨w.heap.size + 1, 0, none⟩ = some (.slice none 0 0) ∧ w1.cell? ⟨w.heap.size + 1, 1, none⟩ = some (.slice none 0 0) ∧ w1.frozen? ⟨w.heap.size + 1, 0, none⟩ = false ∧ w1.frozen? ⟨w.heap.size + 1, 1, none⟩ = false from ⟨x1_0, x1_1, f1_0, f1_1⟩)
  have HBC := HB1
  clear hc0
  have HA1 := Lib.hid (below_alloc w1 (.cells #[] 23))
  have hv0 := World.ownsRow_made (base := w1.heap.size) (e := 23) (size := 1) w1 #[] 0 (Nat.le_refl _) (by unfold maxLen; omega) rfl
  have HV0 := Lib.hid hv0
  clear hv0
  refine (spec_own a' zs c' (w1.alloc (.cells #[] 23)) (Hhz.out.below (HB1.out.trans (HA1.out.mono (by omega)))) hk (by omega)).mono ?_
  rintro e wl ⟨v, rfl, ho, hbl2⟩
  obtain ⟨p2, q2, rfl, _, _, _⟩ := ho.slice
  have HV1 := Lib.hid (ownsRow_block HV0.out (fun g e => hbl2.block g (HV0.out.lt g e).2))
  have HL1 := Lib.hid ho
  have hb := HA1.out.trans (hbl2.mono (by simp))
  have HBK := Lib.hid hb
  clear ho hbl2
  have s2 : w1.heap.size ≤ wl.heap.size := hb.size
  have n2_0 : w.heap.size < wl.heap.size := by omega
  have n2_1 : w.heap.size + 1 < wl.heap.size := by omega
  replace x0_0 := cell_below hb x0_0 (by omega)
  replace x0_1 := cell_below hb x0_1 (by omega)
  replace x1_0 := cell_below hb x1_0 (by omega)
  replace x1_1 := cell_below hb x1_1 (by omega)
  replace f1_0 := fro_below hb f1_0 (by omega)
  replace f1_1 := fro_below hb f1_1 (by omega)
  have HB2 := Lib.hid (HB1.out.trans (hb.mono (by omega)))
  clear hb
  go_wp2_with fail
  have HX := Lib.hid (show wl.cell? ⟨w.heap.size, 0, none⟩ = some (.slice (some ⟨bl, off, none⟩) rows.length c) ∧ wl.cell? ⟨w.heap.size + 1, 0, none⟩ = some (.slice none 0 0) ∧ wl.cell? ⟨w.heap.size + 1, 1, none⟩ = some (.slice none 0 0) ∧ wl.frozen? ⟨w.heap.size + 1, 0, none⟩ = false ∧ wl.frozen? ⟨w.heap.size + 1, 1, none⟩ = false from ⟨x0_0, x1_0, x1_1, f1_0, f1_1⟩)
  have hCl : w1.heap.size < wl.heap.size := by have := HV1.out.lt w1.heap.size rfl; exact this.2
  have HBI := Lib.hid (below_alloc wl (.cells #[.slice (some ⟨w1.heap.size, 0, none⟩) 0 0, .slice p2 zs.length q2] 27))
  have HY := Lib.hid (show (wl.alloc (.cells #[.slice (some ⟨w1.heap.size, 0, none⟩) 0 0, .slice p2 zs.length q2] 27)).cell? ⟨wl.heap.size, 0, none⟩ = some ((.slice (some ⟨w1.heap.size, 0, none⟩) 0 0)) ∧ (wl.alloc (.cells #[.slice (some ⟨w1.heap.size, 0, none⟩) 0 0, .slice p2 zs.length q2] 27)).cell? ⟨wl.heap.size, 1, none⟩ = some ((.slice p2 zs.length q2)) ∧ (wl.alloc (.cells #[.slice (some ⟨w1.heap.size, 0, none⟩) 0 0, .slice p2 zs.length q2] 27)).frozen? ⟨wl.heap.size, 0, none⟩ = false ∧ (wl.alloc (.cells #[.slice (some ⟨w1.heap.size, 0, none⟩) 0 0, .slice p2 zs.length q2] 27)).frozen? ⟨wl.heap.size, 1, none⟩ = false from ⟨cell_new _ _ _ rfl rfl, cell_new _ _ _ rfl rfl, fro_new _ _ _ rfl, fro_new _ _ _ rfl⟩)
  have HO1 := Lib.hid (show Out w1.heap.size (wl.heap.size) (wl.alloc (.cells #[.slice (some ⟨w1.heap.size, 0, none⟩) 0 0, .slice p2 zs.length q2] 27)).heap.size (wl.alloc (.cells #[.slice (some ⟨w1.heap.size, 0, none⟩) 0 0, .slice p2 zs.length q2] 27)) (.slice (some ⟨w1.heap.size, 0, none⟩) 0 0) (.slice p2 zs.length q2) [] [] zs from
    ⟨HV1.out.alloc _, (fun g e => by (have h9 : w1.heap.size = g := by simpa [Value.ownBlock] using e); simp; omega), RowsOf.nil _ _ _,
      (ownsRow_base HL1.out.1 (fun g hg => Nat.le_trans (by simp) (HL1.out.lt hg).1)).alloc _,
      (fun g e => by have h9 := (HL1.out.lt e).2.1; simp; omega), fun g e hb => by obtain ⟨i, h9, _⟩ := hb; simp at h9⟩)
  have sI : wl.heap.size + 1 ≤ (wl.alloc (.cells #[.slice (some ⟨w1.heap.size, 0, none⟩) 0 0, .slice p2 zs.length q2] 27)).heap.size := by simp
  have HBW := HB2
  clear x0_0 x0_1 x1_0 x1_1 f1_0 f1_1 HV0 HV1 HL1 HA1
  have HBJ := Lib.hid (HBK.out.trans (HBI.out.mono (by omega)))
  go_loopw [5] (fun i wr => ∃ (k : Nat) (v l : Value) (cs : List Value), k ≤ rows.length ∧ i = .int .i64 k ∧ Hid (wr.cell? ⟨wl.heap.size, 0, none⟩ = some (v) ∧ wr.cell? ⟨wl.heap.size, 1, none⟩ = some (l) ∧ wr.frozen? ⟨wl.heap.size, 0, none⟩ = false ∧ wr.frozen? ⟨wl.heap.size, 1, none⟩ = false) ∧ Hid (Out w1.heap.size (wl.heap.size) wr.heap.size wr v l cs (pickM lf rows k) zs) ∧ Hid (Below w1.heap.size w1 wr) ∧ wl.heap.size + 1 ≤ wr.heap.size) (fun i _ => rows.length - (intOf i).toNat)
  case atStart => exact ⟨0, _, _, [], Nat.zero_le _, rfl, HY, HO1, HBJ, sI⟩
  case round =>
    obtain ⟨k, v, l, cs, hk', rfl, HC, HO, HBl, hsz⟩ := hrel
    clear sI HY HO1 HBJ HBI
    by_cases hlt : k < rows.length
    · obtain ⟨bl', off', rp, rq, hab, hbl', hc, hpq, hrow⟩ := (Hhr.out.below HBC.out).at hlt
      obtain ⟨rfl, rfl⟩ : bl = bl' ∧ off = off' := by cases hab; exact ⟨rfl, rfl⟩
      have y0 := HC.out.1
      have HSR := Lib.hid (pick_succ lf rows k hlt)
      have HRl := Lib.hid (pick_length lf rows k hk')
      have hf0 := HF.out k hlt
      have HROW := Lib.hid hrow
      have xh := cell_below HBl.out HX0.out (by omega)
      have xr := cell_below HBl.out hc (by omega)
      generalize rows.getD k [] = r at *
      generalize pickM lf rows k = RR at *
      have i1 : (0 : Int) ≤ (k : Int) := by omega
      have i2 : (k : Int) < (rows.length : Int) := by omega
      clear hc hrow hpq hab
      have HT0 := Lib.hid (show ∀ wa : World, (wa.cell? ⟨w.heap.size, 0, none⟩ = some (.slice (some ⟨bl, off, none⟩) rows.length c) ∧ wa.cell? ⟨bl, off + k, none⟩ = some (.slice rp r.length rq) ∧ wr.heap.size ≤ wa.heap.size ∧ Below w1.heap.size w1 wa) → (wa.cell? ⟨wl.heap.size, 0, none⟩ = some (v) ∧ wa.cell? ⟨wl.heap.size, 1, none⟩ = some (l) ∧ wa.frozen? ⟨wl.heap.size, 0, none⟩ = false ∧ wa.frozen? ⟨wl.heap.size, 1, none⟩ = false) → (Out w1.heap.size (wl.heap.size) wr.heap.size wa v l cs RR zs) → Calls Try.prog 72 #[.slice rp r.length rq] wa (fun e w' => ∃ (p1 : Option Addr) (q1 : Nat), e = .returned (.slice p1 r.length q1) ∧ w'.ownsRow wa.heap.size 3 1 (.slice p1 r.length q1) r.length (r.map (Value.int .i64)) ∧ Below wa.heap.size wa w' ∧ (Out w1.heap.size (wl.heap.size) wr.heap.size w' v l cs RR zs) ∧ (w'.cell? ⟨wl.heap.size, 0, none⟩ = some (v) ∧ w'.cell? ⟨wl.heap.size, 1, none⟩ = some (l) ∧ w'.frozen? ⟨wl.heap.size, 0, none⟩ = false ∧ w'.frozen? ⟨wl.heap.size, 1, none⟩ = false) ∧ w'.cell? ⟨w.heap.size, 0, none⟩ = some (.slice (some ⟨bl, off, none⟩) rows.length c) ∧ w'.cell? ⟨bl, off + k, none⟩ = some (.slice rp r.length rq) ∧ wr.heap.size ≤ w'.heap.size ∧ Below w1.heap.size w1 w') from fun wa hS hQ hO => by
        have hwz := hS.2.2.1
        have hB := hS.2.2.2
        refine (spec_own rp r rq wa (HROW.out.below hB) (by omega) (by omega)).mono ?_
        rintro e w' ⟨v', rfl, ho, hb⟩
        obtain ⟨p1, q1, rfl, _, _, _⟩ := ho.slice
        exact ⟨p1, q1, rfl, ho.1, hb, hO.below hb, ⟨cell_below hb hQ.1 (by omega), cell_below hb hQ.2.1 (by omega), fro_below hb hQ.2.2.1 (by omega), fro_below hb hQ.2.2.2 (by omega)⟩, cell_below hb hS.1 (by omega), cell_below hb hS.2.1 (by omega), Nat.le_trans hwz hb.size, hB.trans (hb.mono (by omega))⟩)
      have HA5 := Lib.hid (show ∀ (W W3 : World) (o : Option Nat), (W.cell? ⟨w.heap.size, 0, none⟩ = some (.slice (some ⟨bl, off, none⟩) rows.length c) ∧ W.cell? ⟨bl, off + k, none⟩ = some (.slice rp r.length rq) ∧ wr.heap.size ≤ W.heap.size ∧ Below w1.heap.size w1 W) → W.grownBy W3 o → (∀ g, o = some g → w1.heap.size ≤ g ∧ g ≠ wl.heap.size) → (W3.cell? ⟨w.heap.size, 0, none⟩ = some (.slice (some ⟨bl, off, none⟩) rows.length c) ∧ W3.cell? ⟨bl, off + k, none⟩ = some (.slice rp r.length rq) ∧ wr.heap.size ≤ W3.heap.size ∧ Below w1.heap.size w1 W3) from fun W W3 o hS hg ho => by
        have nf : ∀ q, some q = o → q < w1.heap.size → False := fun q e h => by have := (ho q e.symm).1; omega
        exact ⟨hg.cell hS.1 (fun e => nf _ e (by simp; omega)), hg.cell hS.2.1 (fun e => nf _ e (by simp; omega)), Nat.le_trans hS.2.2.1 hg.size, hS.2.2.2.grown hg (by have := hS.2.2.1; omega) (fun g e => (ho g e).1)⟩)
      have HQ := Lib.hid (show ∀ (W W3 : World) (o : Option Nat) (v l : Value), (W.cell? ⟨wl.heap.size, 0, none⟩ = some (v) ∧ W.cell? ⟨wl.heap.size, 1, none⟩ = some (l) ∧ W.frozen? ⟨wl.heap.size, 0, none⟩ = false ∧ W.frozen? ⟨wl.heap.size, 1, none⟩ = false) → W.grownBy W3 o → (∀ g, o = some g → w1.heap.size ≤ g ∧ g ≠ wl.heap.size) → wl.heap.size < W.heap.size → (W3.cell? ⟨wl.heap.size, 0, none⟩ = some (v) ∧ W3.cell? ⟨wl.heap.size, 1, none⟩ = some (l) ∧ W3.frozen? ⟨wl.heap.size, 0, none⟩ = false ∧ W3.frozen? ⟨wl.heap.size, 1, none⟩ = false) from fun W W3 o v l hQ hg ho hB => by
        have nf : ∀ q, some q = o → q = wl.heap.size → False := fun q e h => (ho q e.symm).2 h
        exact ⟨hg.cell hQ.1 (fun e => nf _ e rfl), hg.cell hQ.2.1 (fun e => nf _ e rfl), (hg.frozen_far ⟨wl.heap.size, 0, none⟩ hB (fun e => nf _ e rfl)).trans hQ.2.2.1, (hg.frozen_far ⟨wl.heap.size, 1, none⟩ hB (fun e => nf _ e rfl)).trans hQ.2.2.2⟩)
      go_wp2_with fail
      refine wp_region_noPanic ?_
      refine wp_region_held_drew (S := fun w' => w'.cell? ⟨w.heap.size, 0, none⟩ = some (.slice (some ⟨bl, off, none⟩) rows.length c) ∧ w'.cell? ⟨bl, off + k, none⟩ = some (.slice rp r.length rq) ∧ wr.heap.size ≤ w'.heap.size ∧ Below w1.heap.size w1 w') (by kernel_rfl) ?_ (fun hHeld => ?_)
      · exact ⟨xh, xr, Nat.le_refl _, HBl.out.drew⟩
      refine wpAnyH_take (i := 0) (v := ?_) rfl (by kernel_rfl) (by kernel_rfl) (by kernel_rfl) (fun _ _ _ h => h) (Or.inl ⟨by rfl, ?_⟩) (by assumption) ?_
      rotate_left
      · intro w9 hSw; (try dsimp only at hSw); go_simp; try with_reducible rfl
      try simp only [List.getElem_toArray, List.getElem_cons_succ, List.getElem_cons_zero, Act.put, List.setIfInBounds_toArray, List.set_cons_zero, List.set_cons_succ]
      refine wpAnyH_take (i := 2) (v := ?_) rfl (by kernel_rfl) (by kernel_rfl) (by kernel_rfl) (fun _ _ _ h => h) (Or.inl ⟨by rfl, ?_⟩) (by assumption) ?_
      rotate_left
      · intro w9 hSw; (try dsimp only at hSw); go_simp; try with_reducible rfl
      try simp only [List.getElem_toArray, List.getElem_cons_succ, List.getElem_cons_zero, Act.put, List.setIfInBounds_toArray, List.set_cons_zero, List.set_cons_succ]
      refine wpAnyH_take (i := 3) (v := ?_) rfl (by kernel_rfl) (by kernel_rfl) (by kernel_rfl) (fun _ _ _ h => h) (Or.inl ⟨by rfl, ?_⟩) (by assumption) ?_
      rotate_left
      · intro w9 hSw; (try dsimp only at hSw); go_simp; try with_reducible rfl
      try simp only [List.getElem_toArray, List.getElem_cons_succ, List.getElem_cons_zero, Act.put, List.setIfInBounds_toArray, List.set_cons_zero, List.set_cons_succ]
      refine wpAnyH_take (i := 4) (v := ?_) rfl (by kernel_rfl) (by kernel_rfl) (by kernel_rfl) (fun _ _ _ h => h) (Or.inl ⟨by rfl, ?_⟩) (by assumption) ?_
      rotate_left
      · intro w9 hSw; (try dsimp only at hSw); go_simp; try with_reducible rfl
      try simp only [List.getElem_toArray, List.getElem_cons_succ, List.getElem_cons_zero, Act.put, List.setIfInBounds_toArray, List.set_cons_zero, List.set_cons_succ]
      refine wpAnyH_take (i := 5) (v := ?_) rfl (by kernel_rfl) (by kernel_rfl) (by kernel_rfl) (fun _ _ _ h => h) (Or.inl ⟨by rfl, ?_⟩) (by assumption) ?_
      rotate_left
      · intro w9 hSw; (try dsimp only at hSw); go_simp; try with_reducible rfl
      try simp only [List.getElem_toArray, List.getElem_cons_succ, List.getElem_cons_zero, Act.put, List.setIfInBounds_toArray, List.set_cons_zero, List.set_cons_succ]
      refine wpAnyH_take (i := 6) (v := ?_) rfl (by kernel_rfl) (by kernel_rfl) (by kernel_rfl) (fun _ _ _ h => h) (Or.inl ⟨by rfl, ?_⟩) (by assumption) ?_
      rotate_left
      · intro w9 hSw; (try dsimp only at hSw); go_simp; try with_reducible rfl
      try simp only [List.getElem_toArray, List.getElem_cons_succ, List.getElem_cons_zero, Act.put, List.setIfInBounds_toArray, List.set_cons_zero, List.set_cons_succ]
      refine wpAnyH_ready (rs := [1, 7, 8]) (by kernel_rfl) (by simp) ?_
      refine AllReadyH.cons rfl (fun K hK => ?_) ?_
      · go_simp
        refine hK.out _ _ ?_ (fun hHeld => ?_)
        · exact hHeld
        clear hK K
        try simp only [List.getElem_toArray, List.getElem_cons_succ, List.getElem_cons_zero, Act.put, List.setIfInBounds_toArray, List.set_cons_zero, List.set_cons_succ]
        refine wpAnyH_ready (rs := [7, 8]) (by kernel_rfl) (by simp) ?_
        refine AllReadyH.cons rfl (fun K hK => ?_) ?_
        · go_simp
          refine Calls.mono (HT0.out _ ?_ ?_ ?_) ?_
          · exact hHeld
          · exact HC.out
          · exact HO.out.below (Below.refl _ _).drew
          rintro e va ⟨p1, q1, rfl, ho0, hb0, hO0, ⟨q0_0, q0_1, q0_2, q0_3⟩, hbx⟩
          refine hK.out _ _ ?_ (fun hHeld => ?_)
          · exact hbx
          clear hK K
          try simp only [List.getElem_toArray, List.getElem_cons_succ, List.getElem_cons_zero, Act.put, List.setIfInBounds_toArray, List.set_cons_zero, List.set_cons_succ]
          refine wpAnyH_ready (rs := [8]) (by kernel_rfl) (by simp) ?_
          refine AllReadyH.cons rfl (fun K hK => ?_) ?_
          · go_simp
            refine hK.out _ _ ?_ (fun hHeld => ?_)
            · exact ⟨cell_old _ hbx.1, cell_old _ hbx.2.1, Nat.le_trans hbx.2.2.1 (by simp), hbx.2.2.2.alloc (by have := hbx.2.2.1; omega) _⟩
            clear hK K
            try simp only [List.getElem_toArray, List.getElem_cons_succ, List.getElem_cons_zero, Act.put, List.setIfInBounds_toArray, List.set_cons_zero, List.set_cons_succ]
            have HU := Lib.hid (show ∃ lo9, ((va.alloc (.cells #[.int .i64 (-1)] 3)).ownsRow lo9 3 1 (.slice p1 r.length q1) r.length (r.map (Value.int .i64)) ∧ wr.heap.size ≤ lo9 ∧ lo9 ≤ (va.alloc (.cells #[.int .i64 (-1)] 3)).heap.size) ∧ ((va.alloc (.cells #[.int .i64 (-1)] 3)).cell? ⟨va.heap.size, 0, none⟩ = some (.int .i64 (-1))) ∧ (Out w1.heap.size (wl.heap.size) wr.heap.size (va.alloc (.cells #[.int .i64 (-1)] 3)) v l cs RR zs) ∧ ((va.alloc (.cells #[.int .i64 (-1)] 3)).cell? ⟨wl.heap.size, 0, none⟩ = some (v) ∧ (va.alloc (.cells #[.int .i64 (-1)] 3)).cell? ⟨wl.heap.size, 1, none⟩ = some (l) ∧ (va.alloc (.cells #[.int .i64 (-1)] 3)).frozen? ⟨wl.heap.size, 0, none⟩ = false ∧ (va.alloc (.cells #[.int .i64 (-1)] 3)).frozen? ⟨wl.heap.size, 1, none⟩ = false) ∧ (va.alloc (.cells #[.int .i64 (-1)] 3)).cell? ⟨w.heap.size, 0, none⟩ = some (.slice (some ⟨bl, off, none⟩) rows.length c) ∧ (va.alloc (.cells #[.int .i64 (-1)] 3)).cell? ⟨bl, off + k, none⟩ = some (.slice rp r.length rq) ∧ wr.heap.size ≤ (va.alloc (.cells #[.int .i64 (-1)] 3)).heap.size ∧ Below w1.heap.size w1 (va.alloc (.cells #[.int .i64 (-1)] 3)) from ⟨_, ⟨ho0.alloc _, by simp, by have := hb0.size; simp at this ⊢; omega⟩, cell_new _ _ _ rfl rfl, hO0.below (below_alloc va _), ⟨cell_old _ q0_0, cell_old _ q0_1, fro_old _ (by have := hbx.2.2.1; omega) q0_2, fro_old _ (by have := hbx.2.2.1; omega) q0_3⟩, hHeld⟩)
            have z0 : (va.alloc (.cells #[.int .i64 (-1)] 3)).cell? ⟨wl.heap.size, 0, none⟩ = some v := cell_old _ q0_0
            have hH9 := Lib.hid hHeld
            clear ho0 hb0 hO0 q0_0 q0_1 q0_2 q0_3 hbx
            generalize va.alloc (.cells #[.int .i64 (-1)] 3) = wA at *
            generalize va.heap.size = nb at *
            have hHeld := hH9.out
            clear hH9
            refine wpAnyH_ready (rs := [9]) (by kernel_rfl) (by simp) ?_
            refine AllReadyH.cons rfl (fun K hK => ?_) ?_
            · obtain ⟨lo9, ⟨ho9, hl9, hl8⟩, hn9, hO9, hq9, hs9⟩ := HU.out
              (refine step_append_lies _ (by rfl) _ _ _ (by rfl) lo9 3 iI _ 1 8 Try.underlying23 hi' hz0' hz1' hz2' rfl (by omega) (.slice p1 r.length q1) r.length (r.map (Value.int .i64)) (by rfl) ho9 ⟨nb, 0, none⟩ 1 1 [.int .i64 (-1)] (by rfl) (by rfl) (fun j u hj => by (have h7 : j = 0 := by (have := (List.getElem?_eq_some_iff.1 hj).1; simp at this; exact this)); subst h7; simp at hj; subst hj; simpa [Addr.add] using hn9) (by simp [Value.oneCell']) (by omega) (by unfold maxLen; omega) (by omega) hl8 _ rfl ?_)
              intro g1 cap1 wB hown9 hgrow9 hat9 hlt9
              have ho8 : ∀ g, (Value.slice p1 r.length q1).ownBlock = some g → wr.heap.size ≤ g := fun g e => Nat.le_trans hl9 (ho9.lt g e).1
              have HO2 := Lib.hid (Out.grown hO9 hgrow9 ho8)
              obtain ⟨t0, t1, t2, t3⟩ := HQ.out _ _ _ _ _ hq9 hgrow9 (fun g e => ⟨by have := ho8 g e; omega, by have := ho8 g e; omega⟩) (by have := hs9.2.2.1; omega)
              have hx2 := Lib.hid (HA5.out _ _ _ hs9 hgrow9 (fun g e => ⟨by have := ho8 g e; omega, by have := ho8 g e; omega⟩))
              have HR2 := Lib.hid (show OwnI wr.heap.size wB.heap.size wB (.slice (some ⟨g1, 0, none⟩) (r.length + 1) cap1) (lf r) from (OwnI.of (lo := lo9) (by rw [lf_length]; simpa [lf] using hown9)).mono hl9 (Nat.le_refl _))
              have z1 := t0
              have HT1 := Lib.hid (And.intro t0 (And.intro t1 (And.intro t2 t3)))
              clear t0 t1 t2 t3 hown9 hgrow9 hat9 hn9 hO9 hq9 hs9 HU ho9 ho8
              refine hK.out _ _ ?_ (fun hHeld => ?_)
              · exact hx2.out
              clear hK K
              try simp only [List.getElem_toArray, List.getElem_cons_succ, List.getElem_cons_zero, Act.put, List.setIfInBounds_toArray, List.set_cons_zero, List.set_cons_succ]
              refine wpAnyH_ready (rs := [10]) (by kernel_rfl) (by simp) ?_
              refine AllReadyH.cons rfl (fun K hK => ?_) ?_
              · go_simp
                refine hK.out _ _ ?_ (fun hHeld => ?_)
                · exact ⟨cell_old _ hx2.out.1, cell_old _ hx2.out.2.1, Nat.le_trans hx2.out.2.2.1 (by simp), hx2.out.2.2.2.alloc (by have := hx2.out.2.2.1; omega) _⟩
                clear hK K
                try simp only [List.getElem_toArray, List.getElem_cons_succ, List.getElem_cons_zero, Act.put, List.setIfInBounds_toArray, List.set_cons_zero, List.set_cons_succ]
                have z2 : ∀ O, (wB.alloc O).cell? ⟨wl.heap.size, 0, none⟩ = some v := fun O => cell_old O z1
                refine wpAnyH_ready (rs := [11]) (by kernel_rfl) (by simp) ?_
                refine AllReadyH.cons rfl (fun K hK => ?_) ?_
                · (refine step_append_lies _ (by rfl) _ _ _ (by rfl) w1.heap.size 23 i0 _ 1 24 Try.underlying22 hi hz0 hz1 hz2 rfl (by omega) v RR.length cs (by rfl) (HO2.out.1.alloc _) ⟨wB.heap.size, 0, none⟩ 1 1 [.slice (some ⟨g1, 0, none⟩) (r.length + 1) cap1] (by rfl) (by rfl) (World.news_of_block (cs := #[.slice (some ⟨g1, 0, none⟩) (r.length + 1) cap1]) (t := 23) (fr := (0, 0)) (heap_alloc_new wB _)) (by simp [Value.oneCell']) (by omega) (by have := HRl.out; unfold maxLen; omega) (by have := HRl.out; omega) (Nat.le_trans (by omega) (Nat.le_trans hx2.out.2.2.1 (by simp))) (wB.heap.size + 1) (by simp) ?_)
                  intro gg cap w3 hown1 hgrow hat hlt'
                  have hv9 := fun g e => And.intro (HO2.out.1.lt g e).1 (HO2.out.2.1 g e).1
                  have hO3 := Lib.hid (Out.row HO2.out HR2.out hx2.out.2.2.1 (by omega) hgrow hown1 hat hlt')
                  obtain ⟨t0, t1, t2, t3⟩ := HQ.out _ _ _ _ _ ⟨cell_old _ HT1.out.1, cell_old _ HT1.out.2.1, fro_old _ (by have := hx2.out.2.2.1; omega) HT1.out.2.2.1, fro_old _ (by have := hx2.out.2.2.1; omega) HT1.out.2.2.2⟩ hgrow hv9 (by have := hx2.out.2.2.1; simp; omega)
                  have hx3 := Lib.hid (HA5.out _ _ _ ⟨cell_old _ hx2.out.1, cell_old _ hx2.out.2.1, Nat.le_trans hx2.out.2.2.1 (by simp), hx2.out.2.2.2.alloc (by have := hx2.out.2.2.1; omega) _⟩ hgrow hv9)
                  clear hown1 hgrow hat hv9
                  refine hK.out _ _ ?_ (fun hHeld => ?_)
                  · exact hx3.out
                  clear hK K
                  try simp only [List.getElem_toArray, List.getElem_cons_succ, List.getElem_cons_zero, Act.put, List.setIfInBounds_toArray, List.set_cons_zero, List.set_cons_succ]
                  refine wpAnyH_take (i := 12) (v := ?_) rfl (by kernel_rfl) (by kernel_rfl) (by kernel_rfl) (fun _ _ _ h => h) (Or.inl ⟨by rfl, ?_⟩) (by assumption) ?_
                  rotate_left
                  · intro w9 hSw; (try dsimp only at hSw); go_simp; try with_reducible rfl
                  try simp only [List.getElem_toArray, List.getElem_cons_succ, List.getElem_cons_zero, Act.put, List.setIfInBounds_toArray, List.set_cons_zero, List.set_cons_succ]
                  refine wpAnyH_ready (rs := [13]) (by kernel_rfl) (by simp) ?_
                  refine AllReadyH.cons rfl (fun K hK => ?_) ?_
                  · go_simp
                    refine hK.out _ _ ?_ (fun hHeld => ?_)
                    · exact ⟨cell_set hx3.out.1 (by simp; omega) _, cell_set hx3.out.2.1 (by simp; omega) _, by rw [size_set]; exact hx3.out.2.2.1, hx3.out.2.2.2.setCell (by simp; omega) _⟩
                    clear hK K
                    try simp only [List.getElem_toArray, List.getElem_cons_succ, List.getElem_cons_zero, Act.put, List.setIfInBounds_toArray, List.set_cons_zero, List.set_cons_succ]
                    refine wpAnyH_done (by kernel_rfl) ?_ _
                    refine NoPanic.normal ?_
                    have HO6 := Lib.hid (show Out w1.heap.size (wl.heap.size) (w3.setCell ⟨wl.heap.size, 0, none⟩ (Value.slice (some ⟨gg, 0, none⟩) (RR.length + 1) cap)).heap.size (w3.setCell ⟨wl.heap.size, 0, none⟩ (Value.slice (some ⟨gg, 0, none⟩) (RR.length + 1) cap)) (Value.slice (some ⟨gg, 0, none⟩) (RR.length + 1) cap) l (cs ++ [.slice (some ⟨g1, 0, none⟩) (r.length + 1) cap1]) (RR ++ [lf r]) zs from by rw [size_set]; exact hO3.out.set 0 _)
                    have HY6 := Lib.hid (show (w3.setCell ⟨wl.heap.size, 0, none⟩ (Value.slice (some ⟨gg, 0, none⟩) (RR.length + 1) cap)).cell? ⟨wl.heap.size, 0, none⟩ = some ((Value.slice (some ⟨gg, 0, none⟩) (RR.length + 1) cap)) ∧ (w3.setCell ⟨wl.heap.size, 0, none⟩ (Value.slice (some ⟨gg, 0, none⟩) (RR.length + 1) cap)).cell? ⟨wl.heap.size, 1, none⟩ = some (l) ∧ (w3.setCell ⟨wl.heap.size, 0, none⟩ (Value.slice (some ⟨gg, 0, none⟩) (RR.length + 1) cap)).frozen? ⟨wl.heap.size, 0, none⟩ = false ∧ (w3.setCell ⟨wl.heap.size, 0, none⟩ (Value.slice (some ⟨gg, 0, none⟩) (RR.length + 1) cap)).frozen? ⟨wl.heap.size, 1, none⟩ = false from ⟨World.cell?_setCell_same _ _ _ t0, (World.cell?_setCell_other _ _ _ _ (by simp)).trans t1, by rw [World.frozen?_setCell]; exact t2, by rw [World.frozen?_setCell]; exact t3⟩)
                    have hb6 := Lib.hid hHeld.2.2.2
                    have hs6 : wl.heap.size + 1 ≤ (w3.setCell ⟨wl.heap.size, 0, none⟩ (Value.slice (some ⟨gg, 0, none⟩) (RR.length + 1) cap)).heap.size := by have := hHeld.2.2.1; omega
                    clear hHeld t0 t1 t2 t3
                    go_wp2_with fail
                    go_roundw
                    case rel => exact ⟨k + 1, _, _, _, by omega, by go_num, HY6, by rw [HSR.out]; exact HO6, hb6, hs6⟩
                    case measure => simp [intOf]; omega
                  exact AllReadyH.nil
                exact AllReadyH.nil
              exact AllReadyH.nil
            exact AllReadyH.nil
          exact AllReadyH.nil
        refine AllReadyH.cons rfl (fun K hK => ?_) ?_
        · go_simp
          refine hK.out _ _ ?_ (fun hHeld => ?_)
          · first | exact ⟨cell_old _ hHeld.1, cell_old _ hHeld.2.1, Nat.le_trans hHeld.2.2.1 (by simp), hHeld.2.2.2.alloc (by have := hHeld.2.2.1; omega) _⟩ | exact ⟨cell_oldD _ xh, cell_oldD _ xr, by simp, (HBl.out.alloc (by omega) _).drew⟩
          clear hK K
          try simp only [List.getElem_toArray, List.getElem_cons_succ, List.getElem_cons_zero, Act.put, List.setIfInBounds_toArray, List.set_cons_zero, List.set_cons_succ]
          have z0 : (wr.alloc (.cells #[.int .i64 (-1)] 3)).drew.cell? ⟨wl.heap.size, 0, none⟩ = some v := cell_oldD _ y0
          refine wpAnyH_ready (rs := [7]) (by kernel_rfl) (by simp) ?_
          refine AllReadyH.cons rfl (fun K hK => ?_) ?_
          · go_simp
            refine Calls.mono (HT0.out _ ?_ ?_ ?_) ?_
            · exact hHeld
            · exact ⟨cell_oldD _ HC.out.1, cell_oldD _ HC.out.2.1, fro_oldD _ (by omega) HC.out.2.2.1, fro_oldD _ (by omega) HC.out.2.2.2⟩
            · exact HO.out.below (below_alloc wr _).drew
            rintro e va ⟨p1, q1, rfl, ho0, hb0, hO0, ⟨q0_0, q0_1, q0_2, q0_3⟩, hbx⟩
            refine hK.out _ _ ?_ (fun hHeld => ?_)
            · exact hbx
            clear hK K
            try simp only [List.getElem_toArray, List.getElem_cons_succ, List.getElem_cons_zero, Act.put, List.setIfInBounds_toArray, List.set_cons_zero, List.set_cons_succ]
            have HU := Lib.hid (show ∃ lo9, (va.ownsRow lo9 3 1 (.slice p1 r.length q1) r.length (r.map (Value.int .i64)) ∧ wr.heap.size ≤ lo9 ∧ lo9 ≤ va.heap.size) ∧ (va.cell? ⟨wr.heap.size, 0, none⟩ = some (.int .i64 (-1))) ∧ (Out w1.heap.size (wl.heap.size) wr.heap.size va v l cs RR zs) ∧ (va.cell? ⟨wl.heap.size, 0, none⟩ = some (v) ∧ va.cell? ⟨wl.heap.size, 1, none⟩ = some (l) ∧ va.frozen? ⟨wl.heap.size, 0, none⟩ = false ∧ va.frozen? ⟨wl.heap.size, 1, none⟩ = false) ∧ va.cell? ⟨w.heap.size, 0, none⟩ = some (.slice (some ⟨bl, off, none⟩) rows.length c) ∧ va.cell? ⟨bl, off + k, none⟩ = some (.slice rp r.length rq) ∧ wr.heap.size ≤ va.heap.size ∧ Below w1.heap.size w1 va from ⟨_, ⟨ho0, by simp, hb0.size⟩, cell_below hb0 (cell_new wr _ _ rfl rfl) (by simp), hO0, ⟨q0_0, q0_1, q0_2, q0_3⟩, hHeld⟩)
            clear ho0 hb0 hO0
            clear q0_1 q0_2 q0_3
            refine wpAnyH_ready (rs := [9]) (by kernel_rfl) (by simp) ?_
            refine AllReadyH.cons rfl (fun K hK => ?_) ?_
            · obtain ⟨lo9, ⟨ho9, hl9, hl8⟩, hn9, hO9, hq9, hs9⟩ := HU.out
              (refine step_append_lies _ (by rfl) _ _ _ (by rfl) lo9 3 iI _ 1 8 Try.underlying23 hi' hz0' hz1' hz2' rfl (by omega) (.slice p1 r.length q1) r.length (r.map (Value.int .i64)) (by rfl) ho9 ⟨wr.heap.size, 0, none⟩ 1 1 [.int .i64 (-1)] (by rfl) (by rfl) (fun j u hj => by (have h7 : j = 0 := by (have := (List.getElem?_eq_some_iff.1 hj).1; simp at this; exact this)); subst h7; simp at hj; subst hj; simpa [Addr.add] using hn9) (by simp [Value.oneCell']) (by omega) (by unfold maxLen; omega) (by omega) hl8 _ rfl ?_)
              intro g1 cap1 wB hown9 hgrow9 hat9 hlt9
              have ho8 : ∀ g, (Value.slice p1 r.length q1).ownBlock = some g → wr.heap.size ≤ g := fun g e => Nat.le_trans hl9 (ho9.lt g e).1
              have HO2 := Lib.hid (Out.grown hO9 hgrow9 ho8)
              obtain ⟨t0, t1, t2, t3⟩ := HQ.out _ _ _ _ _ hq9 hgrow9 (fun g e => ⟨by have := ho8 g e; omega, by have := ho8 g e; omega⟩) (by have := hs9.2.2.1; omega)
              have hx2 := Lib.hid (HA5.out _ _ _ hs9 hgrow9 (fun g e => ⟨by have := ho8 g e; omega, by have := ho8 g e; omega⟩))
              have HR2 := Lib.hid (show OwnI wr.heap.size wB.heap.size wB (.slice (some ⟨g1, 0, none⟩) (r.length + 1) cap1) (lf r) from (OwnI.of (lo := lo9) (by rw [lf_length]; simpa [lf] using hown9)).mono hl9 (Nat.le_refl _))
              have z1 := t0
              have HT1 := Lib.hid (And.intro t0 (And.intro t1 (And.intro t2 t3)))
              clear t0 t1 t2 t3 hown9 hgrow9 hat9 hn9 hO9 hq9 hs9 HU ho9 ho8
              refine hK.out _ _ ?_ (fun hHeld => ?_)
              · exact hx2.out
              clear hK K
              try simp only [List.getElem_toArray, List.getElem_cons_succ, List.getElem_cons_zero, Act.put, List.setIfInBounds_toArray, List.set_cons_zero, List.set_cons_succ]
              refine wpAnyH_ready (rs := [10]) (by kernel_rfl) (by simp) ?_
              refine AllReadyH.cons rfl (fun K hK => ?_) ?_
              · go_simp
                refine hK.out _ _ ?_ (fun hHeld => ?_)
                · exact ⟨cell_old _ hx2.out.1, cell_old _ hx2.out.2.1, Nat.le_trans hx2.out.2.2.1 (by simp), hx2.out.2.2.2.alloc (by have := hx2.out.2.2.1; omega) _⟩
                clear hK K
                try simp only [List.getElem_toArray, List.getElem_cons_succ, List.getElem_cons_zero, Act.put, List.setIfInBounds_toArray, List.set_cons_zero, List.set_cons_succ]
                have z2 : ∀ O, (wB.alloc O).cell? ⟨wl.heap.size, 0, none⟩ = some v := fun O => cell_old O z1
                refine wpAnyH_ready (rs := [11]) (by kernel_rfl) (by simp) ?_
                refine AllReadyH.cons rfl (fun K hK => ?_) ?_
                · (refine step_append_lies _ (by rfl) _ _ _ (by rfl) w1.heap.size 23 i0 _ 1 24 Try.underlying22 hi hz0 hz1 hz2 rfl (by omega) v RR.length cs (by rfl) (HO2.out.1.alloc _) ⟨wB.heap.size, 0, none⟩ 1 1 [.slice (some ⟨g1, 0, none⟩) (r.length + 1) cap1] (by rfl) (by rfl) (World.news_of_block (cs := #[.slice (some ⟨g1, 0, none⟩) (r.length + 1) cap1]) (t := 23) (fr := (0, 0)) (heap_alloc_new wB _)) (by simp [Value.oneCell']) (by omega) (by have := HRl.out; unfold maxLen; omega) (by have := HRl.out; omega) (Nat.le_trans (by omega) (Nat.le_trans hx2.out.2.2.1 (by simp))) (wB.heap.size + 1) (by simp) ?_)
                  intro gg cap w3 hown1 hgrow hat hlt'
                  have hv9 := fun g e => And.intro (HO2.out.1.lt g e).1 (HO2.out.2.1 g e).1
                  have hO3 := Lib.hid (Out.row HO2.out HR2.out hx2.out.2.2.1 (by omega) hgrow hown1 hat hlt')
                  obtain ⟨t0, t1, t2, t3⟩ := HQ.out _ _ _ _ _ ⟨cell_old _ HT1.out.1, cell_old _ HT1.out.2.1, fro_old _ (by have := hx2.out.2.2.1; omega) HT1.out.2.2.1, fro_old _ (by have := hx2.out.2.2.1; omega) HT1.out.2.2.2⟩ hgrow hv9 (by have := hx2.out.2.2.1; simp; omega)
                  have hx3 := Lib.hid (HA5.out _ _ _ ⟨cell_old _ hx2.out.1, cell_old _ hx2.out.2.1, Nat.le_trans hx2.out.2.2.1 (by simp), hx2.out.2.2.2.alloc (by have := hx2.out.2.2.1; omega) _⟩ hgrow hv9)
                  clear hown1 hgrow hat hv9
                  refine hK.out _ _ ?_ (fun hHeld => ?_)
                  · exact hx3.out
                  clear hK K
                  try simp only [List.getElem_toArray, List.getElem_cons_succ, List.getElem_cons_zero, Act.put, List.setIfInBounds_toArray, List.set_cons_zero, List.set_cons_succ]
                  refine wpAnyH_take (i := 12) (v := ?_) rfl (by kernel_rfl) (by kernel_rfl) (by kernel_rfl) (fun _ _ _ h => h) (Or.inl ⟨by rfl, ?_⟩) (by assumption) ?_
                  rotate_left
                  · intro w9 hSw; (try dsimp only at hSw); go_simp; try with_reducible rfl
                  try simp only [List.getElem_toArray, List.getElem_cons_succ, List.getElem_cons_zero, Act.put, List.setIfInBounds_toArray, List.set_cons_zero, List.set_cons_succ]
                  refine wpAnyH_ready (rs := [13]) (by kernel_rfl) (by simp) ?_
                  refine AllReadyH.cons rfl (fun K hK => ?_) ?_
                  · go_simp
                    refine hK.out _ _ ?_ (fun hHeld => ?_)
                    · exact ⟨cell_set hx3.out.1 (by simp; omega) _, cell_set hx3.out.2.1 (by simp; omega) _, by rw [size_set]; exact hx3.out.2.2.1, hx3.out.2.2.2.setCell (by simp; omega) _⟩
                    clear hK K
                    try simp only [List.getElem_toArray, List.getElem_cons_succ, List.getElem_cons_zero, Act.put, List.setIfInBounds_toArray, List.set_cons_zero, List.set_cons_succ]
                    refine wpAnyH_done (by kernel_rfl) ?_ _
                    refine NoPanic.normal ?_
                    have HO6 := Lib.hid (show Out w1.heap.size (wl.heap.size) (w3.setCell ⟨wl.heap.size, 0, none⟩ (Value.slice (some ⟨gg, 0, none⟩) (RR.length + 1) cap)).heap.size (w3.setCell ⟨wl.heap.size, 0, none⟩ (Value.slice (some ⟨gg, 0, none⟩) (RR.length + 1) cap)) (Value.slice (some ⟨gg, 0, none⟩) (RR.length + 1) cap) l (cs ++ [.slice (some ⟨g1, 0, none⟩) (r.length + 1) cap1]) (RR ++ [lf r]) zs from by rw [size_set]; exact hO3.out.set 0 _)
                    have HY6 := Lib.hid (show (w3.setCell ⟨wl.heap.size, 0, none⟩ (Value.slice (some ⟨gg, 0, none⟩) (RR.length + 1) cap)).cell? ⟨wl.heap.size, 0, none⟩ = some ((Value.slice (some ⟨gg, 0, none⟩) (RR.length + 1) cap)) ∧ (w3.setCell ⟨wl.heap.size, 0, none⟩ (Value.slice (some ⟨gg, 0, none⟩) (RR.length + 1) cap)).cell? ⟨wl.heap.size, 1, none⟩ = some (l) ∧ (w3.setCell ⟨wl.heap.size, 0, none⟩ (Value.slice (some ⟨gg, 0, none⟩) (RR.length + 1) cap)).frozen? ⟨wl.heap.size, 0, none⟩ = false ∧ (w3.setCell ⟨wl.heap.size, 0, none⟩ (Value.slice (some ⟨gg, 0, none⟩) (RR.length + 1) cap)).frozen? ⟨wl.heap.size, 1, none⟩ = false from ⟨World.cell?_setCell_same _ _ _ t0, (World.cell?_setCell_other _ _ _ _ (by simp)).trans t1, by rw [World.frozen?_setCell]; exact t2, by rw [World.frozen?_setCell]; exact t3⟩)
                    have hb6 := Lib.hid hHeld.2.2.2
                    have hs6 : wl.heap.size + 1 ≤ (w3.setCell ⟨wl.heap.size, 0, none⟩ (Value.slice (some ⟨gg, 0, none⟩) (RR.length + 1) cap)).heap.size := by have := hHeld.2.2.1; omega
                    clear hHeld t0 t1 t2 t3
                    go_wp2_with fail
                    go_roundw
                    case rel => exact ⟨k + 1, _, _, _, by omega, by go_num, HY6, by rw [HSR.out]; exact HO6, hb6, hs6⟩
                    case measure => simp [intOf]; omega
                  exact AllReadyH.nil
                exact AllReadyH.nil
              exact AllReadyH.nil
            exact AllReadyH.nil
          exact AllReadyH.nil
        exact AllReadyH.nil
      refine AllReadyH.cons rfl (fun K hK => ?_) ?_
      · go_simp
        refine Calls.mono (HT0.out _ ?_ ?_ ?_) ?_
        · exact hHeld
        · exact HC.out
        · exact HO.out.below (Below.refl _ _).drew
        rintro e va ⟨p1, q1, rfl, ho0, hb0, hO0, ⟨q0_0, q0_1, q0_2, q0_3⟩, hbx⟩
        refine hK.out _ _ ?_ (fun hHeld => ?_)
        · exact hbx
        clear hK K
        try simp only [List.getElem_toArray, List.getElem_cons_succ, List.getElem_cons_zero, Act.put, List.setIfInBounds_toArray, List.set_cons_zero, List.set_cons_succ]
        refine wpAnyH_ready (rs := [1, 8]) (by kernel_rfl) (by simp) ?_
        refine AllReadyH.cons rfl (fun K hK => ?_) ?_
        · go_simp
          refine hK.out _ _ ?_ (fun hHeld => ?_)
          · exact hHeld
          clear hK K
          try simp only [List.getElem_toArray, List.getElem_cons_succ, List.getElem_cons_zero, Act.put, List.setIfInBounds_toArray, List.set_cons_zero, List.set_cons_succ]
          refine wpAnyH_ready (rs := [8]) (by kernel_rfl) (by simp) ?_
          refine AllReadyH.cons rfl (fun K hK => ?_) ?_
          · go_simp
            refine hK.out _ _ ?_ (fun hHeld => ?_)
            · exact ⟨cell_old _ hbx.1, cell_old _ hbx.2.1, Nat.le_trans hbx.2.2.1 (by simp), hbx.2.2.2.alloc (by have := hbx.2.2.1; omega) _⟩
            clear hK K
            try simp only [List.getElem_toArray, List.getElem_cons_succ, List.getElem_cons_zero, Act.put, List.setIfInBounds_toArray, List.set_cons_zero, List.set_cons_succ]
            have HU := Lib.hid (show ∃ lo9, ((va.alloc (.cells #[.int .i64 (-1)] 3)).ownsRow lo9 3 1 (.slice p1 r.length q1) r.length (r.map (Value.int .i64)) ∧ wr.heap.size ≤ lo9 ∧ lo9 ≤ (va.alloc (.cells #[.int .i64 (-1)] 3)).heap.size) ∧ ((va.alloc (.cells #[.int .i64 (-1)] 3)).cell? ⟨va.heap.size, 0, none⟩ = some (.int .i64 (-1))) ∧ (Out w1.heap.size (wl.heap.size) wr.heap.size (va.alloc (.cells #[.int .i64 (-1)] 3)) v l cs RR zs) ∧ ((va.alloc (.cells #[.int .i64 (-1)] 3)).cell? ⟨wl.heap.size, 0, none⟩ = some (v) ∧ (va.alloc (.cells #[.int .i64 (-1)] 3)).cell? ⟨wl.heap.size, 1, none⟩ = some (l) ∧ (va.alloc (.cells #[.int .i64 (-1)] 3)).frozen? ⟨wl.heap.size, 0, none⟩ = false ∧ (va.alloc (.cells #[.int .i64 (-1)] 3)).frozen? ⟨wl.heap.size, 1, none⟩ = false) ∧ (va.alloc (.cells #[.int .i64 (-1)] 3)).cell? ⟨w.heap.size, 0, none⟩ = some (.slice (some ⟨bl, off, none⟩) rows.length c) ∧ (va.alloc (.cells #[.int .i64 (-1)] 3)).cell? ⟨bl, off + k, none⟩ = some (.slice rp r.length rq) ∧ wr.heap.size ≤ (va.alloc (.cells #[.int .i64 (-1)] 3)).heap.size ∧ Below w1.heap.size w1 (va.alloc (.cells #[.int .i64 (-1)] 3)) from ⟨_, ⟨ho0.alloc _, by simp, by have := hb0.size; simp at this ⊢; omega⟩, cell_new _ _ _ rfl rfl, hO0.below (below_alloc va _), ⟨cell_old _ q0_0, cell_old _ q0_1, fro_old _ (by have := hbx.2.2.1; omega) q0_2, fro_old _ (by have := hbx.2.2.1; omega) q0_3⟩, hHeld⟩)
            have z0 : (va.alloc (.cells #[.int .i64 (-1)] 3)).cell? ⟨wl.heap.size, 0, none⟩ = some v := cell_old _ q0_0
            have hH9 := Lib.hid hHeld
            clear ho0 hb0 hO0 q0_0 q0_1 q0_2 q0_3 hbx
            generalize va.alloc (.cells #[.int .i64 (-1)] 3) = wA at *
            generalize va.heap.size = nb at *
            have hHeld := hH9.out
            clear hH9
            refine wpAnyH_ready (rs := [9]) (by kernel_rfl) (by simp) ?_
            refine AllReadyH.cons rfl (fun K hK => ?_) ?_
            · obtain ⟨lo9, ⟨ho9, hl9, hl8⟩, hn9, hO9, hq9, hs9⟩ := HU.out
              (refine step_append_lies _ (by rfl) _ _ _ (by rfl) lo9 3 iI _ 1 8 Try.underlying23 hi' hz0' hz1' hz2' rfl (by omega) (.slice p1 r.length q1) r.length (r.map (Value.int .i64)) (by rfl) ho9 ⟨nb, 0, none⟩ 1 1 [.int .i64 (-1)] (by rfl) (by rfl) (fun j u hj => by (have h7 : j = 0 := by (have := (List.getElem?_eq_some_iff.1 hj).1; simp at this; exact this)); subst h7; simp at hj; subst hj; simpa [Addr.add] using hn9) (by simp [Value.oneCell']) (by omega) (by unfold maxLen; omega) (by omega) hl8 _ rfl ?_)
              intro g1 cap1 wB hown9 hgrow9 hat9 hlt9
              have ho8 : ∀ g, (Value.slice p1 r.length q1).ownBlock = some g → wr.heap.size ≤ g := fun g e => Nat.le_trans hl9 (ho9.lt g e).1
              have HO2 := Lib.hid (Out.grown hO9 hgrow9 ho8)
              obtain ⟨t0, t1, t2, t3⟩ := HQ.out _ _ _ _ _ hq9 hgrow9 (fun g e => ⟨by have := ho8 g e; omega, by have := ho8 g e; omega⟩) (by have := hs9.2.2.1; omega)
              have hx2 := Lib.hid (HA5.out _ _ _ hs9 hgrow9 (fun g e => ⟨by have := ho8 g e; omega, by have := ho8 g e; omega⟩))
              have HR2 := Lib.hid (show OwnI wr.heap.size wB.heap.size wB (.slice (some ⟨g1, 0, none⟩) (r.length + 1) cap1) (lf r) from (OwnI.of (lo := lo9) (by rw [lf_length]; simpa [lf] using hown9)).mono hl9 (Nat.le_refl _))
              have z1 := t0
              have HT1 := Lib.hid (And.intro t0 (And.intro t1 (And.intro t2 t3)))
              clear t0 t1 t2 t3 hown9 hgrow9 hat9 hn9 hO9 hq9 hs9 HU ho9 ho8
              refine hK.out _ _ ?_ (fun hHeld => ?_)
              · exact hx2.out
              clear hK K
              try simp only [List.getElem_toArray, List.getElem_cons_succ, List.getElem_cons_zero, Act.put, List.setIfInBounds_toArray, List.set_cons_zero, List.set_cons_succ]
              refine wpAnyH_ready (rs := [10]) (by kernel_rfl) (by simp) ?_
              refine AllReadyH.cons rfl (fun K hK => ?_) ?_
              · go_simp
                refine hK.out _ _ ?_ (fun hHeld => ?_)
                · exact ⟨cell_old _ hx2.out.1, cell_old _ hx2.out.2.1, Nat.le_trans hx2.out.2.2.1 (by simp), hx2.out.2.2.2.alloc (by have := hx2.out.2.2.1; omega) _⟩
                clear hK K
                try simp only [List.getElem_toArray, List.getElem_cons_succ, List.getElem_cons_zero, Act.put, List.setIfInBounds_toArray, List.set_cons_zero, List.set_cons_succ]
                have z2 : ∀ O, (wB.alloc O).cell? ⟨wl.heap.size, 0, none⟩ = some v := fun O => cell_old O z1
                refine wpAnyH_ready (rs := [11]) (by kernel_rfl) (by simp) ?_
                refine AllReadyH.cons rfl (fun K hK => ?_) ?_
                · (refine step_append_lies _ (by rfl) _ _ _ (by rfl) w1.heap.size 23 i0 _ 1 24 Try.underlying22 hi hz0 hz1 hz2 rfl (by omega) v RR.length cs (by rfl) (HO2.out.1.alloc _) ⟨wB.heap.size, 0, none⟩ 1 1 [.slice (some ⟨g1, 0, none⟩) (r.length + 1) cap1] (by rfl) (by rfl) (World.news_of_block (cs := #[.slice (some ⟨g1, 0, none⟩) (r.length + 1) cap1]) (t := 23) (fr := (0, 0)) (heap_alloc_new wB _)) (by simp [Value.oneCell']) (by omega) (by have := HRl.out; unfold maxLen; omega) (by have := HRl.out; omega) (Nat.le_trans (by omega) (Nat.le_trans hx2.out.2.2.1 (by simp))) (wB.heap.size + 1) (by simp) ?_)
                  intro gg cap w3 hown1 hgrow hat hlt'
                  have hv9 := fun g e => And.intro (HO2.out.1.lt g e).1 (HO2.out.2.1 g e).1
                  have hO3 := Lib.hid (Out.row HO2.out HR2.out hx2.out.2.2.1 (by omega) hgrow hown1 hat hlt')
                  obtain ⟨t0, t1, t2, t3⟩ := HQ.out _ _ _ _ _ ⟨cell_old _ HT1.out.1, cell_old _ HT1.out.2.1, fro_old _ (by have := hx2.out.2.2.1; omega) HT1.out.2.2.1, fro_old _ (by have := hx2.out.2.2.1; omega) HT1.out.2.2.2⟩ hgrow hv9 (by have := hx2.out.2.2.1; simp; omega)
                  have hx3 := Lib.hid (HA5.out _ _ _ ⟨cell_old _ hx2.out.1, cell_old _ hx2.out.2.1, Nat.le_trans hx2.out.2.2.1 (by simp), hx2.out.2.2.2.alloc (by have := hx2.out.2.2.1; omega) _⟩ hgrow hv9)
                  clear hown1 hgrow hat hv9
                  refine hK.out _ _ ?_ (fun hHeld => ?_)
                  · exact hx3.out
                  clear hK K
                  try simp only [List.getElem_toArray, List.getElem_cons_succ, List.getElem_cons_zero, Act.put, List.setIfInBounds_toArray, List.set_cons_zero, List.set_cons_succ]
                  refine wpAnyH_take (i := 12) (v := ?_) rfl (by kernel_rfl) (by kernel_rfl) (by kernel_rfl) (fun _ _ _ h => h) (Or.inl ⟨by rfl, ?_⟩) (by assumption) ?_
                  rotate_left
                  · intro w9 hSw; (try dsimp only at hSw); go_simp; try with_reducible rfl
                  try simp only [List.getElem_toArray, List.getElem_cons_succ, List.getElem_cons_zero, Act.put, List.setIfInBounds_toArray, List.set_cons_zero, List.set_cons_succ]
                  refine wpAnyH_ready (rs := [13]) (by kernel_rfl) (by simp) ?_
                  refine AllReadyH.cons rfl (fun K hK => ?_) ?_
                  · go_simp
                    refine hK.out _ _ ?_ (fun hHeld => ?_)
                    · exact ⟨cell_set hx3.out.1 (by simp; omega) _, cell_set hx3.out.2.1 (by simp; omega) _, by rw [size_set]; exact hx3.out.2.2.1, hx3.out.2.2.2.setCell (by simp; omega) _⟩
                    clear hK K
                    try simp only [List.getElem_toArray, List.getElem_cons_succ, List.getElem_cons_zero, Act.put, List.setIfInBounds_toArray, List.set_cons_zero, List.set_cons_succ]
                    refine wpAnyH_done (by kernel_rfl) ?_ _
                    refine NoPanic.normal ?_
                    have HO6 := Lib.hid (show Out w1.heap.size (wl.heap.size) (w3.setCell ⟨wl.heap.size, 0, none⟩ (Value.slice (some ⟨gg, 0, none⟩) (RR.length + 1) cap)).heap.size (w3.setCell ⟨wl.heap.size, 0, none⟩ (Value.slice (some ⟨gg, 0, none⟩) (RR.length + 1) cap)) (Value.slice (some ⟨gg, 0, none⟩) (RR.length + 1) cap) l (cs ++ [.slice (some ⟨g1, 0, none⟩) (r.length + 1) cap1]) (RR ++ [lf r]) zs from by rw [size_set]; exact hO3.out.set 0 _)
                    have HY6 := Lib.hid (show (w3.setCell ⟨wl.heap.size, 0, none⟩ (Value.slice (some ⟨gg, 0, none⟩) (RR.length + 1) cap)).cell? ⟨wl.heap.size, 0, none⟩ = some ((Value.slice (some ⟨gg, 0, none⟩) (RR.length + 1) cap)) ∧ (w3.setCell ⟨wl.heap.size, 0, none⟩ (Value.slice (some ⟨gg, 0, none⟩) (RR.length + 1) cap)).cell? ⟨wl.heap.size, 1, none⟩ = some (l) ∧ (w3.setCell ⟨wl.heap.size, 0, none⟩ (Value.slice (some ⟨gg, 0, none⟩) (RR.length + 1) cap)).frozen? ⟨wl.heap.size, 0, none⟩ = false ∧ (w3.setCell ⟨wl.heap.size, 0, none⟩ (Value.slice (some ⟨gg, 0, none⟩) (RR.length + 1) cap)).frozen? ⟨wl.heap.size, 1, none⟩ = false from ⟨World.cell?_setCell_same _ _ _ t0, (World.cell?_setCell_other _ _ _ _ (by simp)).trans t1, by rw [World.frozen?_setCell]; exact t2, by rw [World.frozen?_setCell]; exact t3⟩)
                    have hb6 := Lib.hid hHeld.2.2.2
                    have hs6 : wl.heap.size + 1 ≤ (w3.setCell ⟨wl.heap.size, 0, none⟩ (Value.slice (some ⟨gg, 0, none⟩) (RR.length + 1) cap)).heap.size := by have := hHeld.2.2.1; omega
                    clear hHeld t0 t1 t2 t3
                    go_wp2_with fail
                    go_roundw
                    case rel => exact ⟨k + 1, _, _, _, by omega, by go_num, HY6, by rw [HSR.out]; exact HO6, hb6, hs6⟩
                    case measure => simp [intOf]; omega
                  exact AllReadyH.nil
                exact AllReadyH.nil
              exact AllReadyH.nil
            exact AllReadyH.nil
          exact AllReadyH.nil
        refine AllReadyH.cons rfl (fun K hK => ?_) ?_
        · go_simp
          refine hK.out _ _ ?_ (fun hHeld => ?_)
          · exact ⟨cell_old _ hbx.1, cell_old _ hbx.2.1, Nat.le_trans hbx.2.2.1 (by simp), hbx.2.2.2.alloc (by have := hbx.2.2.1; omega) _⟩
          clear hK K
          try simp only [List.getElem_toArray, List.getElem_cons_succ, List.getElem_cons_zero, Act.put, List.setIfInBounds_toArray, List.set_cons_zero, List.set_cons_succ]
          have HU := Lib.hid (show ∃ lo9, ((va.alloc (.cells #[.int .i64 (-1)] 3)).ownsRow lo9 3 1 (.slice p1 r.length q1) r.length (r.map (Value.int .i64)) ∧ wr.heap.size ≤ lo9 ∧ lo9 ≤ (va.alloc (.cells #[.int .i64 (-1)] 3)).heap.size) ∧ ((va.alloc (.cells #[.int .i64 (-1)] 3)).cell? ⟨va.heap.size, 0, none⟩ = some (.int .i64 (-1))) ∧ (Out w1.heap.size (wl.heap.size) wr.heap.size (va.alloc (.cells #[.int .i64 (-1)] 3)) v l cs RR zs) ∧ ((va.alloc (.cells #[.int .i64 (-1)] 3)).cell? ⟨wl.heap.size, 0, none⟩ = some (v) ∧ (va.alloc (.cells #[.int .i64 (-1)] 3)).cell? ⟨wl.heap.size, 1, none⟩ = some (l) ∧ (va.alloc (.cells #[.int .i64 (-1)] 3)).frozen? ⟨wl.heap.size, 0, none⟩ = false ∧ (va.alloc (.cells #[.int .i64 (-1)] 3)).frozen? ⟨wl.heap.size, 1, none⟩ = false) ∧ (va.alloc (.cells #[.int .i64 (-1)] 3)).cell? ⟨w.heap.size, 0, none⟩ = some (.slice (some ⟨bl, off, none⟩) rows.length c) ∧ (va.alloc (.cells #[.int .i64 (-1)] 3)).cell? ⟨bl, off + k, none⟩ = some (.slice rp r.length rq) ∧ wr.heap.size ≤ (va.alloc (.cells #[.int .i64 (-1)] 3)).heap.size ∧ Below w1.heap.size w1 (va.alloc (.cells #[.int .i64 (-1)] 3)) from ⟨_, ⟨ho0.alloc _, by simp, by have := hb0.size; simp at this ⊢; omega⟩, cell_new _ _ _ rfl rfl, hO0.below (below_alloc va _), ⟨cell_old _ q0_0, cell_old _ q0_1, fro_old _ (by have := hbx.2.2.1; omega) q0_2, fro_old _ (by have := hbx.2.2.1; omega) q0_3⟩, hHeld⟩)
          have z0 : (va.alloc (.cells #[.int .i64 (-1)] 3)).cell? ⟨wl.heap.size, 0, none⟩ = some v := cell_old _ q0_0
          have hH9 := Lib.hid hHeld
          clear ho0 hb0 hO0 q0_0 q0_1 q0_2 q0_3 hbx
          generalize va.alloc (.cells #[.int .i64 (-1)] 3) = wA at *
          generalize va.heap.size = nb at *
          have hHeld := hH9.out
          clear hH9
          refine wpAnyH_ready (rs := [1, 9]) (by kernel_rfl) (by simp) ?_
          refine AllReadyH.cons rfl (fun K hK => ?_) ?_
          · go_simp
            refine hK.out _ _ ?_ (fun hHeld => ?_)
            · exact hHeld
            clear hK K
            try simp only [List.getElem_toArray, List.getElem_cons_succ, List.getElem_cons_zero, Act.put, List.setIfInBounds_toArray, List.set_cons_zero, List.set_cons_succ]
            refine wpAnyH_ready (rs := [9]) (by kernel_rfl) (by simp) ?_
            refine AllReadyH.cons rfl (fun K hK => ?_) ?_
            · obtain ⟨lo9, ⟨ho9, hl9, hl8⟩, hn9, hO9, hq9, hs9⟩ := HU.out
              (refine step_append_lies _ (by rfl) _ _ _ (by rfl) lo9 3 iI _ 1 8 Try.underlying23 hi' hz0' hz1' hz2' rfl (by omega) (.slice p1 r.length q1) r.length (r.map (Value.int .i64)) (by rfl) ho9 ⟨nb, 0, none⟩ 1 1 [.int .i64 (-1)] (by rfl) (by rfl) (fun j u hj => by (have h7 : j = 0 := by (have := (List.getElem?_eq_some_iff.1 hj).1; simp at this; exact this)); subst h7; simp at hj; subst hj; simpa [Addr.add] using hn9) (by simp [Value.oneCell']) (by omega) (by unfold maxLen; omega) (by omega) hl8 _ rfl ?_)
              intro g1 cap1 wB hown9 hgrow9 hat9 hlt9
              have ho8 : ∀ g, (Value.slice p1 r.length q1).ownBlock = some g → wr.heap.size ≤ g := fun g e => Nat.le_trans hl9 (ho9.lt g e).1
              have HO2 := Lib.hid (Out.grown hO9 hgrow9 ho8)
              obtain ⟨t0, t1, t2, t3⟩ := HQ.out _ _ _ _ _ hq9 hgrow9 (fun g e => ⟨by have := ho8 g e; omega, by have := ho8 g e; omega⟩) (by have := hs9.2.2.1; omega)
              have hx2 := Lib.hid (HA5.out _ _ _ hs9 hgrow9 (fun g e => ⟨by have := ho8 g e; omega, by have := ho8 g e; omega⟩))
              have HR2 := Lib.hid (show OwnI wr.heap.size wB.heap.size wB (.slice (some ⟨g1, 0, none⟩) (r.length + 1) cap1) (lf r) from (OwnI.of (lo := lo9) (by rw [lf_length]; simpa [lf] using hown9)).mono hl9 (Nat.le_refl _))
              have z1 := t0
              have HT1 := Lib.hid (And.intro t0 (And.intro t1 (And.intro t2 t3)))
              clear t0 t1 t2 t3 hown9 hgrow9 hat9 hn9 hO9 hq9 hs9 HU ho9 ho8
              refine hK.out _ _ ?_ (fun hHeld => ?_)
              · exact hx2.out
              clear hK K
              try simp only [List.getElem_toArray, List.getElem_cons_succ, List.getElem_cons_zero, Act.put, List.setIfInBounds_toArray, List.set_cons_zero, List.set_cons_succ]
              refine wpAnyH_ready (rs := [10]) (by kernel_rfl) (by simp) ?_
              refine AllReadyH.cons rfl (fun K hK => ?_) ?_
              · go_simp
                refine hK.out _ _ ?_ (fun hHeld => ?_)
                · exact ⟨cell_old _ hx2.out.1, cell_old _ hx2.out.2.1, Nat.le_trans hx2.out.2.2.1 (by simp), hx2.out.2.2.2.alloc (by have := hx2.out.2.2.1; omega) _⟩
                clear hK K
                try simp only [List.getElem_toArray, List.getElem_cons_succ, List.getElem_cons_zero, Act.put, List.setIfInBounds_toArray, List.set_cons_zero, List.set_cons_succ]
                have z2 : ∀ O, (wB.alloc O).cell? ⟨wl.heap.size, 0, none⟩ = some v := fun O => cell_old O z1
                refine wpAnyH_ready (rs := [11]) (by kernel_rfl) (by simp) ?_
                refine AllReadyH.cons rfl (fun K hK => ?_) ?_
                · (refine step_append_lies _ (by rfl) _ _ _ (by rfl) w1.heap.size 23 i0 _ 1 24 Try.underlying22 hi hz0 hz1 hz2 rfl (by omega) v RR.length cs (by rfl) (HO2.out.1.alloc _) ⟨wB.heap.size, 0, none⟩ 1 1 [.slice (some ⟨g1, 0, none⟩) (r.length + 1) cap1] (by rfl) (by rfl) (World.news_of_block (cs := #[.slice (some ⟨g1, 0, none⟩) (r.length + 1) cap1]) (t := 23) (fr := (0, 0)) (heap_alloc_new wB _)) (by simp [Value.oneCell']) (by omega) (by have := HRl.out; unfold maxLen; omega) (by have := HRl.out; omega) (Nat.le_trans (by omega) (Nat.le_trans hx2.out.2.2.1 (by simp))) (wB.heap.size + 1) (by simp) ?_)
                  intro gg cap w3 hown1 hgrow hat hlt'
                  have hv9 := fun g e => And.intro (HO2.out.1.lt g e).1 (HO2.out.2.1 g e).1
                  have hO3 := Lib.hid (Out.row HO2.out HR2.out hx2.out.2.2.1 (by omega) hgrow hown1 hat hlt')
                  obtain ⟨t0, t1, t2, t3⟩ := HQ.out _ _ _ _ _ ⟨cell_old _ HT1.out.1, cell_old _ HT1.out.2.1, fro_old _ (by have := hx2.out.2.2.1; omega) HT1.out.2.2.1, fro_old _ (by have := hx2.out.2.2.1; omega) HT1.out.2.2.2⟩ hgrow hv9 (by have := hx2.out.2.2.1; simp; omega)
                  have hx3 := Lib.hid (HA5.out _ _ _ ⟨cell_old _ hx2.out.1, cell_old _ hx2.out.2.1, Nat.le_trans hx2.out.2.2.1 (by simp), hx2.out.2.2.2.alloc (by have := hx2.out.2.2.1; omega) _⟩ hgrow hv9)
                  clear hown1 hgrow hat hv9
                  refine hK.out _ _ ?_ (fun hHeld => ?_)
                  · exact hx3.out
                  clear hK K
                  try simp only [List.getElem_toArray, List.getElem_cons_succ, List.getElem_cons_zero, Act.put, List.setIfInBounds_toArray, List.set_cons_zero, List.set_cons_succ]
                  refine wpAnyH_take (i := 12) (v := ?_) rfl (by kernel_rfl) (by kernel_rfl) (by kernel_rfl) (fun _ _ _ h => h) (Or.inl ⟨by rfl, ?_⟩) (by assumption) ?_
                  rotate_left
                  · intro w9 hSw; (try dsimp only at hSw); go_simp; try with_reducible rfl
                  try simp only [List.getElem_toArray, List.getElem_cons_succ, List.getElem_cons_zero, Act.put, List.setIfInBounds_toArray, List.set_cons_zero, List.set_cons_succ]
                  refine wpAnyH_ready (rs := [13]) (by kernel_rfl) (by simp) ?_
                  refine AllReadyH.cons rfl (fun K hK => ?_) ?_
                  · go_simp
                    refine hK.out _ _ ?_ (fun hHeld => ?_)
                    · exact ⟨cell_set hx3.out.1 (by simp; omega) _, cell_set hx3.out.2.1 (by simp; omega) _, by rw [size_set]; exact hx3.out.2.2.1, hx3.out.2.2.2.setCell (by simp; omega) _⟩
                    clear hK K
                    try simp only [List.getElem_toArray, List.getElem_cons_succ, List.getElem_cons_zero, Act.put, List.setIfInBounds_toArray, List.set_cons_zero, List.set_cons_succ]
                    refine wpAnyH_done (by kernel_rfl) ?_ _
                    refine NoPanic.normal ?_
                    have HO6 := Lib.hid (show Out w1.heap.size (wl.heap.size) (w3.setCell ⟨wl.heap.size, 0, none⟩ (Value.slice (some ⟨gg, 0, none⟩) (RR.length + 1) cap)).heap.size (w3.setCell ⟨wl.heap.size, 0, none⟩ (Value.slice (some ⟨gg, 0, none⟩) (RR.length + 1) cap)) (Value.slice (some ⟨gg, 0, none⟩) (RR.length + 1) cap) l (cs ++ [.slice (some ⟨g1, 0, none⟩) (r.length + 1) cap1]) (RR ++ [lf r]) zs from by rw [size_set]; exact hO3.out.set 0 _)
                    have HY6 := Lib.hid (show (w3.setCell ⟨wl.heap.size, 0, none⟩ (Value.slice (some ⟨gg, 0, none⟩) (RR.length + 1) cap)).cell? ⟨wl.heap.size, 0, none⟩ = some ((Value.slice (some ⟨gg, 0, none⟩) (RR.length + 1) cap)) ∧ (w3.setCell ⟨wl.heap.size, 0, none⟩ (Value.slice (some ⟨gg, 0, none⟩) (RR.length + 1) cap)).cell? ⟨wl.heap.size, 1, none⟩ = some (l) ∧ (w3.setCell ⟨wl.heap.size, 0, none⟩ (Value.slice (some ⟨gg, 0, none⟩) (RR.length + 1) cap)).frozen? ⟨wl.heap.size, 0, none⟩ = false ∧ (w3.setCell ⟨wl.heap.size, 0, none⟩ (Value.slice (some ⟨gg, 0, none⟩) (RR.length + 1) cap)).frozen? ⟨wl.heap.size, 1, none⟩ = false from ⟨World.cell?_setCell_same _ _ _ t0, (World.cell?_setCell_other _ _ _ _ (by simp)).trans t1, by rw [World.frozen?_setCell]; exact t2, by rw [World.frozen?_setCell]; exact t3⟩)
                    have hb6 := Lib.hid hHeld.2.2.2
                    have hs6 : wl.heap.size + 1 ≤ (w3.setCell ⟨wl.heap.size, 0, none⟩ (Value.slice (some ⟨gg, 0, none⟩) (RR.length + 1) cap)).heap.size := by have := hHeld.2.2.1; omega
                    clear hHeld t0 t1 t2 t3
                    go_wp2_with fail
                    go_roundw
                    case rel => exact ⟨k + 1, _, _, _, by omega, by go_num, HY6, by rw [HSR.out]; exact HO6, hb6, hs6⟩
                    case measure => simp [intOf]; omega
                  exact AllReadyH.nil
                exact AllReadyH.nil
              exact AllReadyH.nil
            exact AllReadyH.nil
          refine AllReadyH.cons rfl (fun K hK => ?_) ?_
          · obtain ⟨lo9, ⟨ho9, hl9, hl8⟩, hn9, hO9, hq9, hs9⟩ := HU.out
            (refine step_append_lies _ (by rfl) _ _ _ (by rfl) lo9 3 iI _ 1 8 Try.underlying23 hi' hz0' hz1' hz2' rfl (by omega) (.slice p1 r.length q1) r.length (r.map (Value.int .i64)) (by rfl) ho9 ⟨nb, 0, none⟩ 1 1 [.int .i64 (-1)] (by rfl) (by rfl) (fun j u hj => by (have h7 : j = 0 := by (have := (List.getElem?_eq_some_iff.1 hj).1; simp at this; exact this)); subst h7; simp at hj; subst hj; simpa [Addr.add] using hn9) (by simp [Value.oneCell']) (by omega) (by unfold maxLen; omega) (by omega) hl8 _ rfl ?_)
            intro g1 cap1 wB hown9 hgrow9 hat9 hlt9
            have ho8 : ∀ g, (Value.slice p1 r.length q1).ownBlock = some g → wr.heap.size ≤ g := fun g e => Nat.le_trans hl9 (ho9.lt g e).1
            have HO2 := Lib.hid (Out.grown hO9 hgrow9 ho8)
            obtain ⟨t0, t1, t2, t3⟩ := HQ.out _ _ _ _ _ hq9 hgrow9 (fun g e => ⟨by have := ho8 g e; omega, by have := ho8 g e; omega⟩) (by have := hs9.2.2.1; omega)
            have hx2 := Lib.hid (HA5.out _ _ _ hs9 hgrow9 (fun g e => ⟨by have := ho8 g e; omega, by have := ho8 g e; omega⟩))
            have HR2 := Lib.hid (show OwnI wr.heap.size wB.heap.size wB (.slice (some ⟨g1, 0, none⟩) (r.length + 1) cap1) (lf r) from (OwnI.of (lo := lo9) (by rw [lf_length]; simpa [lf] using hown9)).mono hl9 (Nat.le_refl _))
            have z1 := t0
            have HT1 := Lib.hid (And.intro t0 (And.intro t1 (And.intro t2 t3)))
            clear t0 t1 t2 t3 hown9 hgrow9 hat9 hn9 hO9 hq9 hs9 HU ho9 ho8
            refine hK.out _ _ ?_ (fun hHeld => ?_)
            · exact hx2.out
            clear hK K
            try simp only [List.getElem_toArray, List.getElem_cons_succ, List.getElem_cons_zero, Act.put, List.setIfInBounds_toArray, List.set_cons_zero, List.set_cons_succ]
            refine wpAnyH_ready (rs := [1, 10]) (by kernel_rfl) (by simp) ?_
            refine AllReadyH.cons rfl (fun K hK => ?_) ?_
            · go_simp
              refine hK.out _ _ ?_ (fun hHeld => ?_)
              · exact hHeld
              clear hK K
              try simp only [List.getElem_toArray, List.getElem_cons_succ, List.getElem_cons_zero, Act.put, List.setIfInBounds_toArray, List.set_cons_zero, List.set_cons_succ]
              refine wpAnyH_ready (rs := [10]) (by kernel_rfl) (by simp) ?_
              refine AllReadyH.cons rfl (fun K hK => ?_) ?_
              · go_simp
                refine hK.out _ _ ?_ (fun hHeld => ?_)
                · exact ⟨cell_old _ hx2.out.1, cell_old _ hx2.out.2.1, Nat.le_trans hx2.out.2.2.1 (by simp), hx2.out.2.2.2.alloc (by have := hx2.out.2.2.1; omega) _⟩
                clear hK K
                try simp only [List.getElem_toArray, List.getElem_cons_succ, List.getElem_cons_zero, Act.put, List.setIfInBounds_toArray, List.set_cons_zero, List.set_cons_succ]
                have z2 : ∀ O, (wB.alloc O).cell? ⟨wl.heap.size, 0, none⟩ = some v := fun O => cell_old O z1
                refine wpAnyH_ready (rs := [11]) (by kernel_rfl) (by simp) ?_
                refine AllReadyH.cons rfl (fun K hK => ?_) ?_
                · (refine step_append_lies _ (by rfl) _ _ _ (by rfl) w1.heap.size 23 i0 _ 1 24 Try.underlying22 hi hz0 hz1 hz2 rfl (by omega) v RR.length cs (by rfl) (HO2.out.1.alloc _) ⟨wB.heap.size, 0, none⟩ 1 1 [.slice (some ⟨g1, 0, none⟩) (r.length + 1) cap1] (by rfl) (by rfl) (World.news_of_block (cs := #[.slice (some ⟨g1, 0, none⟩) (r.length + 1) cap1]) (t := 23) (fr := (0, 0)) (heap_alloc_new wB _)) (by simp [Value.oneCell']) (by omega) (by have := HRl.out; unfold maxLen; omega) (by have := HRl.out; omega) (Nat.le_trans (by omega) (Nat.le_trans hx2.out.2.2.1 (by simp))) (wB.heap.size + 1) (by simp) ?_)
                  intro gg cap w3 hown1 hgrow hat hlt'
                  have hv9 := fun g e => And.intro (HO2.out.1.lt g e).1 (HO2.out.2.1 g e).1
                  have hO3 := Lib.hid (Out.row HO2.out HR2.out hx2.out.2.2.1 (by omega) hgrow hown1 hat hlt')
                  obtain ⟨t0, t1, t2, t3⟩ := HQ.out _ _ _ _ _ ⟨cell_old _ HT1.out.1, cell_old _ HT1.out.2.1, fro_old _ (by have := hx2.out.2.2.1; omega) HT1.out.2.2.1, fro_old _ (by have := hx2.out.2.2.1; omega) HT1.out.2.2.2⟩ hgrow hv9 (by have := hx2.out.2.2.1; simp; omega)
                  have hx3 := Lib.hid (HA5.out _ _ _ ⟨cell_old _ hx2.out.1, cell_old _ hx2.out.2.1, Nat.le_trans hx2.out.2.2.1 (by simp), hx2.out.2.2.2.alloc (by have := hx2.out.2.2.1; omega) _⟩ hgrow hv9)
                  clear hown1 hgrow hat hv9
                  refine hK.out _ _ ?_ (fun hHeld => ?_)
                  · exact hx3.out
                  clear hK K
                  try simp only [List.getElem_toArray, List.getElem_cons_succ, List.getElem_cons_zero, Act.put, List.setIfInBounds_toArray, List.set_cons_zero, List.set_cons_succ]
                  refine wpAnyH_take (i := 12) (v := ?_) rfl (by kernel_rfl) (by kernel_rfl) (by kernel_rfl) (fun _ _ _ h => h) (Or.inl ⟨by rfl, ?_⟩) (by assumption) ?_
                  rotate_left
                  · intro w9 hSw; (try dsimp only at hSw); go_simp; try with_reducible rfl
                  try simp only [List.getElem_toArray, List.getElem_cons_succ, List.getElem_cons_zero, Act.put, List.setIfInBounds_toArray, List.set_cons_zero, List.set_cons_succ]
                  refine wpAnyH_ready (rs := [13]) (by kernel_rfl) (by simp) ?_
                  refine AllReadyH.cons rfl (fun K hK => ?_) ?_
                  · go_simp
                    refine hK.out _ _ ?_ (fun hHeld => ?_)
                    · exact ⟨cell_set hx3.out.1 (by simp; omega) _, cell_set hx3.out.2.1 (by simp; omega) _, by rw [size_set]; exact hx3.out.2.2.1, hx3.out.2.2.2.setCell (by simp; omega) _⟩
                    clear hK K
                    try simp only [List.getElem_toArray, List.getElem_cons_succ, List.getElem_cons_zero, Act.put, List.setIfInBounds_toArray, List.set_cons_zero, List.set_cons_succ]
                    refine wpAnyH_done (by kernel_rfl) ?_ _
                    refine NoPanic.normal ?_
                    have HO6 := Lib.hid (show Out w1.heap.size (wl.heap.size) (w3.setCell ⟨wl.heap.size, 0, none⟩ (Value.slice (some ⟨gg, 0, none⟩) (RR.length + 1) cap)).heap.size (w3.setCell ⟨wl.heap.size, 0, none⟩ (Value.slice (some ⟨gg, 0, none⟩) (RR.length + 1) cap)) (Value.slice (some ⟨gg, 0, none⟩) (RR.length + 1) cap) l (cs ++ [.slice (some ⟨g1, 0, none⟩) (r.length + 1) cap1]) (RR ++ [lf r]) zs from by rw [size_set]; exact hO3.out.set 0 _)
                    have HY6 := Lib.hid (show (w3.setCell ⟨wl.heap.size, 0, none⟩ (Value.slice (some ⟨gg, 0, none⟩) (RR.length + 1) cap)).cell? ⟨wl.heap.size, 0, none⟩ = some ((Value.slice (some ⟨gg, 0, none⟩) (RR.length + 1) cap)) ∧ (w3.setCell ⟨wl.heap.size, 0, none⟩ (Value.slice (some ⟨gg, 0, none⟩) (RR.length + 1) cap)).cell? ⟨wl.heap.size, 1, none⟩ = some (l) ∧ (w3.setCell ⟨wl.heap.size, 0, none⟩ (Value.slice (some ⟨gg, 0, none⟩) (RR.length + 1) cap)).frozen? ⟨wl.heap.size, 0, none⟩ = false ∧ (w3.setCell ⟨wl.heap.size, 0, none⟩ (Value.slice (some ⟨gg, 0, none⟩) (RR.length + 1) cap)).frozen? ⟨wl.heap.size, 1, none⟩ = false from ⟨World.cell?_setCell_same _ _ _ t0, (World.cell?_setCell_other _ _ _ _ (by simp)).trans t1, by rw [World.frozen?_setCell]; exact t2, by rw [World.frozen?_setCell]; exact t3⟩)
                    have hb6 := Lib.hid hHeld.2.2.2
                    have hs6 : wl.heap.size + 1 ≤ (w3.setCell ⟨wl.heap.size, 0, none⟩ (Value.slice (some ⟨gg, 0, none⟩) (RR.length + 1) cap)).heap.size := by have := hHeld.2.2.1; omega
                    clear hHeld t0 t1 t2 t3
                    go_wp2_with fail
                    go_roundw
                    case rel => exact ⟨k + 1, _, _, _, by omega, by go_num, HY6, by rw [HSR.out]; exact HO6, hb6, hs6⟩
                    case measure => simp [intOf]; omega
                  exact AllReadyH.nil
                exact AllReadyH.nil
              exact AllReadyH.nil
            refine AllReadyH.cons rfl (fun K hK => ?_) ?_
            · go_simp
              refine hK.out _ _ ?_ (fun hHeld => ?_)
              · exact ⟨cell_old _ hx2.out.1, cell_old _ hx2.out.2.1, Nat.le_trans hx2.out.2.2.1 (by simp), hx2.out.2.2.2.alloc (by have := hx2.out.2.2.1; omega) _⟩
              clear hK K
              try simp only [List.getElem_toArray, List.getElem_cons_succ, List.getElem_cons_zero, Act.put, List.setIfInBounds_toArray, List.set_cons_zero, List.set_cons_succ]
              have z2 : ∀ O, (wB.alloc O).cell? ⟨wl.heap.size, 0, none⟩ = some v := fun O => cell_old O z1
              refine wpAnyH_ready (rs := [1]) (by kernel_rfl) (by simp) ?_
              refine AllReadyH.cons rfl (fun K hK => ?_) ?_
              · go_simp
                refine hK.out _ _ ?_ (fun hHeld => ?_)
                · exact hHeld
                clear hK K
                try simp only [List.getElem_toArray, List.getElem_cons_succ, List.getElem_cons_zero, Act.put, List.setIfInBounds_toArray, List.set_cons_zero, List.set_cons_succ]
                refine wpAnyH_ready (rs := [11]) (by kernel_rfl) (by simp) ?_
                refine AllReadyH.cons rfl (fun K hK => ?_) ?_
                · (refine step_append_lies _ (by rfl) _ _ _ (by rfl) w1.heap.size 23 i0 _ 1 24 Try.underlying22 hi hz0 hz1 hz2 rfl (by omega) v RR.length cs (by rfl) (HO2.out.1.alloc _) ⟨wB.heap.size, 0, none⟩ 1 1 [.slice (some ⟨g1, 0, none⟩) (r.length + 1) cap1] (by rfl) (by rfl) (World.news_of_block (cs := #[.slice (some ⟨g1, 0, none⟩) (r.length + 1) cap1]) (t := 23) (fr := (0, 0)) (heap_alloc_new wB _)) (by simp [Value.oneCell']) (by omega) (by have := HRl.out; unfold maxLen; omega) (by have := HRl.out; omega) (Nat.le_trans (by omega) (Nat.le_trans hx2.out.2.2.1 (by simp))) (wB.heap.size + 1) (by simp) ?_)
                  intro gg cap w3 hown1 hgrow hat hlt'
                  have hv9 := fun g e => And.intro (HO2.out.1.lt g e).1 (HO2.out.2.1 g e).1
                  have hO3 := Lib.hid (Out.row HO2.out HR2.out hx2.out.2.2.1 (by omega) hgrow hown1 hat hlt')
                  obtain ⟨t0, t1, t2, t3⟩ := HQ.out _ _ _ _ _ ⟨cell_old _ HT1.out.1, cell_old _ HT1.out.2.1, fro_old _ (by have := hx2.out.2.2.1; omega) HT1.out.2.2.1, fro_old _ (by have := hx2.out.2.2.1; omega) HT1.out.2.2.2⟩ hgrow hv9 (by have := hx2.out.2.2.1; simp; omega)
                  have hx3 := Lib.hid (HA5.out _ _ _ ⟨cell_old _ hx2.out.1, cell_old _ hx2.out.2.1, Nat.le_trans hx2.out.2.2.1 (by simp), hx2.out.2.2.2.alloc (by have := hx2.out.2.2.1; omega) _⟩ hgrow hv9)
                  clear hown1 hgrow hat hv9
                  refine hK.out _ _ ?_ (fun hHeld => ?_)
                  · exact hx3.out
                  clear hK K
                  try simp only [List.getElem_toArray, List.getElem_cons_succ, List.getElem_cons_zero, Act.put, List.setIfInBounds_toArray, List.set_cons_zero, List.set_cons_succ]
                  refine wpAnyH_take (i := 12) (v := ?_) rfl (by kernel_rfl) (by kernel_rfl) (by kernel_rfl) (fun _ _ _ h => h) (Or.inl ⟨by rfl, ?_⟩) (by assumption) ?_
                  rotate_left
                  · intro w9 hSw; (try dsimp only at hSw); go_simp; try with_reducible rfl
                  try simp only [List.getElem_toArray, List.getElem_cons_succ, List.getElem_cons_zero, Act.put, List.setIfInBounds_toArray, List.set_cons_zero, List.set_cons_succ]
                  refine wpAnyH_ready (rs := [13]) (by kernel_rfl) (by simp) ?_
                  refine AllReadyH.cons rfl (fun K hK => ?_) ?_
                  · go_simp
                    refine hK.out _ _ ?_ (fun hHeld => ?_)
                    · exact ⟨cell_set hx3.out.1 (by simp; omega) _, cell_set hx3.out.2.1 (by simp; omega) _, by rw [size_set]; exact hx3.out.2.2.1, hx3.out.2.2.2.setCell (by simp; omega) _⟩
                    clear hK K
                    try simp only [List.getElem_toArray, List.getElem_cons_succ, List.getElem_cons_zero, Act.put, List.setIfInBounds_toArray, List.set_cons_zero, List.set_cons_succ]
                    refine wpAnyH_done (by kernel_rfl) ?_ _
                    refine NoPanic.normal ?_
                    have HO6 := Lib.hid (show Out w1.heap.size (wl.heap.size) (w3.setCell ⟨wl.heap.size, 0, none⟩ (Value.slice (some ⟨gg, 0, none⟩) (RR.length + 1) cap)).heap.size (w3.setCell ⟨wl.heap.size, 0, none⟩ (Value.slice (some ⟨gg, 0, none⟩) (RR.length + 1) cap)) (Value.slice (some ⟨gg, 0, none⟩) (RR.length + 1) cap) l (cs ++ [.slice (some ⟨g1, 0, none⟩) (r.length + 1) cap1]) (RR ++ [lf r]) zs from by rw [size_set]; exact hO3.out.set 0 _)
                    have HY6 := Lib.hid (show (w3.setCell ⟨wl.heap.size, 0, none⟩ (Value.slice (some ⟨gg, 0, none⟩) (RR.length + 1) cap)).cell? ⟨wl.heap.size, 0, none⟩ = some ((Value.slice (some ⟨gg, 0, none⟩) (RR.length + 1) cap)) ∧ (w3.setCell ⟨wl.heap.size, 0, none⟩ (Value.slice (some ⟨gg, 0, none⟩) (RR.length + 1) cap)).cell? ⟨wl.heap.size, 1, none⟩ = some (l) ∧ (w3.setCell ⟨wl.heap.size, 0, none⟩ (Value.slice (some ⟨gg, 0, none⟩) (RR.length + 1) cap)).frozen? ⟨wl.heap.size, 0, none⟩ = false ∧ (w3.setCell ⟨wl.heap.size, 0, none⟩ (Value.slice (some ⟨gg, 0, none⟩) (RR.length + 1) cap)).frozen? ⟨wl.heap.size, 1, none⟩ = false from ⟨World.cell?_setCell_same _ _ _ t0, (World.cell?_setCell_other _ _ _ _ (by simp)).trans t1, by rw [World.frozen?_setCell]; exact t2, by rw [World.frozen?_setCell]; exact t3⟩)
                    have hb6 := Lib.hid hHeld.2.2.2
                    have hs6 : wl.heap.size + 1 ≤ (w3.setCell ⟨wl.heap.size, 0, none⟩ (Value.slice (some ⟨gg, 0, none⟩) (RR.length + 1) cap)).heap.size := by have := hHeld.2.2.1; omega
                    clear hHeld t0 t1 t2 t3
                    go_wp2_with fail
                    go_roundw
                    case rel => exact ⟨k + 1, _, _, _, by omega, by go_num, HY6, by rw [HSR.out]; exact HO6, hb6, hs6⟩
                    case measure => simp [intOf]; omega
                  exact AllReadyH.nil
                exact AllReadyH.nil
              exact AllReadyH.nil
            exact AllReadyH.nil
          exact AllReadyH.nil
        exact AllReadyH.nil
      refine AllReadyH.cons rfl (fun K hK => ?_) ?_
      · go_simp
        refine hK.out _ _ ?_ (fun hHeld => ?_)
        · first | exact ⟨cell_old _ hHeld.1, cell_old _ hHeld.2.1, Nat.le_trans hHeld.2.2.1 (by simp), hHeld.2.2.2.alloc (by have := hHeld.2.2.1; omega) _⟩ | exact ⟨cell_oldD _ xh, cell_oldD _ xr, by simp, (HBl.out.alloc (by omega) _).drew⟩
        clear hK K
        try simp only [List.getElem_toArray, List.getElem_cons_succ, List.getElem_cons_zero, Act.put, List.setIfInBounds_toArray, List.set_cons_zero, List.set_cons_succ]
        have z0 : (wr.alloc (.cells #[.int .i64 (-1)] 3)).drew.cell? ⟨wl.heap.size, 0, none⟩ = some v := cell_oldD _ y0
        refine wpAnyH_ready (rs := [1, 7]) (by kernel_rfl) (by simp) ?_
        refine AllReadyH.cons rfl (fun K hK => ?_) ?_
        · go_simp
          refine hK.out _ _ ?_ (fun hHeld => ?_)
          · exact hHeld
          clear hK K
          try simp only [List.getElem_toArray, List.getElem_cons_succ, List.getElem_cons_zero, Act.put, List.setIfInBounds_toArray, List.set_cons_zero, List.set_cons_succ]
          refine wpAnyH_ready (rs := [7]) (by kernel_rfl) (by simp) ?_
          refine AllReadyH.cons rfl (fun K hK => ?_) ?_
          · go_simp
            refine Calls.mono (HT0.out _ ?_ ?_ ?_) ?_
            · exact hHeld
            · exact ⟨cell_oldD _ HC.out.1, cell_oldD _ HC.out.2.1, fro_oldD _ (by omega) HC.out.2.2.1, fro_oldD _ (by omega) HC.out.2.2.2⟩
            · exact HO.out.below (below_alloc wr _).drew
            rintro e va ⟨p1, q1, rfl, ho0, hb0, hO0, ⟨q0_0, q0_1, q0_2, q0_3⟩, hbx⟩
            refine hK.out _ _ ?_ (fun hHeld => ?_)
            · exact hbx
            clear hK K
            try simp only [List.getElem_toArray, List.getElem_cons_succ, List.getElem_cons_zero, Act.put, List.setIfInBounds_toArray, List.set_cons_zero, List.set_cons_succ]
            have HU := Lib.hid (show ∃ lo9, (va.ownsRow lo9 3 1 (.slice p1 r.length q1) r.length (r.map (Value.int .i64)) ∧ wr.heap.size ≤ lo9 ∧ lo9 ≤ va.heap.size) ∧ (va.cell? ⟨wr.heap.size, 0, none⟩ = some (.int .i64 (-1))) ∧ (Out w1.heap.size (wl.heap.size) wr.heap.size va v l cs RR zs) ∧ (va.cell? ⟨wl.heap.size, 0, none⟩ = some (v) ∧ va.cell? ⟨wl.heap.size, 1, none⟩ = some (l) ∧ va.frozen? ⟨wl.heap.size, 0, none⟩ = false ∧ va.frozen? ⟨wl.heap.size, 1, none⟩ = false) ∧ va.cell? ⟨w.heap.size, 0, none⟩ = some (.slice (some ⟨bl, off, none⟩) rows.length c) ∧ va.cell? ⟨bl, off + k, none⟩ = some (.slice rp r.length rq) ∧ wr.heap.size ≤ va.heap.size ∧ Below w1.heap.size w1 va from ⟨_, ⟨ho0, by simp, hb0.size⟩, cell_below hb0 (cell_new wr _ _ rfl rfl) (by simp), hO0, ⟨q0_0, q0_1, q0_2, q0_3⟩, hHeld⟩)
            clear ho0 hb0 hO0
            clear q0_1 q0_2 q0_3
            refine wpAnyH_ready (rs := [9]) (by kernel_rfl) (by simp) ?_
            refine AllReadyH.cons rfl (fun K hK => ?_) ?_
            · obtain ⟨lo9, ⟨ho9, hl9, hl8⟩, hn9, hO9, hq9, hs9⟩ := HU.out
              (refine step_append_lies _ (by rfl) _ _ _ (by rfl) lo9 3 iI _ 1 8 Try.underlying23 hi' hz0' hz1' hz2' rfl (by omega) (.slice p1 r.length q1) r.length (r.map (Value.int .i64)) (by rfl) ho9 ⟨wr.heap.size, 0, none⟩ 1 1 [.int .i64 (-1)] (by rfl) (by rfl) (fun j u hj => by (have h7 : j = 0 := by (have := (List.getElem?_eq_some_iff.1 hj).1; simp at this; exact this)); subst h7; simp at hj; subst hj; simpa [Addr.add] using hn9) (by simp [Value.oneCell']) (by omega) (by unfold maxLen; omega) (by omega) hl8 _ rfl ?_)
              intro g1 cap1 wB hown9 hgrow9 hat9 hlt9
              have ho8 : ∀ g, (Value.slice p1 r.length q1).ownBlock = some g → wr.heap.size ≤ g := fun g e => Nat.le_trans hl9 (ho9.lt g e).1
              have HO2 := Lib.hid (Out.grown hO9 hgrow9 ho8)
              obtain ⟨t0, t1, t2, t3⟩ := HQ.out _ _ _ _ _ hq9 hgrow9 (fun g e => ⟨by have := ho8 g e; omega, by have := ho8 g e; omega⟩) (by have := hs9.2.2.1; omega)
              have hx2 := Lib.hid (HA5.out _ _ _ hs9 hgrow9 (fun g e => ⟨by have := ho8 g e; omega, by have := ho8 g e; omega⟩))
              have HR2 := Lib.hid (show OwnI wr.heap.size wB.heap.size wB (.slice (some ⟨g1, 0, none⟩) (r.length + 1) cap1) (lf r) from (OwnI.of (lo := lo9) (by rw [lf_length]; simpa [lf] using hown9)).mono hl9 (Nat.le_refl _))
              have z1 := t0
              have HT1 := Lib.hid (And.intro t0 (And.intro t1 (And.intro t2 t3)))
              clear t0 t1 t2 t3 hown9 hgrow9 hat9 hn9 hO9 hq9 hs9 HU ho9 ho8
              refine hK.out _ _ ?_ (fun hHeld => ?_)
              · exact hx2.out
              clear hK K
              try simp only [List.getElem_toArray, List.getElem_cons_succ, List.getElem_cons_zero, Act.put, List.setIfInBounds_toArray, List.set_cons_zero, List.set_cons_succ]
              refine wpAnyH_ready (rs := [10]) (by kernel_rfl) (by simp) ?_
              refine AllReadyH.cons rfl (fun K hK => ?_) ?_
              · go_simp
                refine hK.out _ _ ?_ (fun hHeld => ?_)
                · exact ⟨cell_old _ hx2.out.1, cell_old _ hx2.out.2.1, Nat.le_trans hx2.out.2.2.1 (by simp), hx2.out.2.2.2.alloc (by have := hx2.out.2.2.1; omega) _⟩
                clear hK K
                try simp only [List.getElem_toArray, List.getElem_cons_succ, List.getElem_cons_zero, Act.put, List.setIfInBounds_toArray, List.set_cons_zero, List.set_cons_succ]
                have z2 : ∀ O, (wB.alloc O).cell? ⟨wl.heap.size, 0, none⟩ = some v := fun O => cell_old O z1
                refine wpAnyH_ready (rs := [11]) (by kernel_rfl) (by simp) ?_
                refine AllReadyH.cons rfl (fun K hK => ?_) ?_
                · (refine step_append_lies _ (by rfl) _ _ _ (by rfl) w1.heap.size 23 i0 _ 1 24 Try.underlying22 hi hz0 hz1 hz2 rfl (by omega) v RR.length cs (by rfl) (HO2.out.1.alloc _) ⟨wB.heap.size, 0, none⟩ 1 1 [.slice (some ⟨g1, 0, none⟩) (r.length + 1) cap1] (by rfl) (by rfl) (World.news_of_block (cs := #[.slice (some ⟨g1, 0, none⟩) (r.length + 1) cap1]) (t := 23) (fr := (0, 0)) (heap_alloc_new wB _)) (by simp [Value.oneCell']) (by omega) (by have := HRl.out; unfold maxLen; omega) (by have := HRl.out; omega) (Nat.le_trans (by omega) (Nat.le_trans hx2.out.2.2.1 (by simp))) (wB.heap.size + 1) (by simp) ?_)
                  intro gg cap w3 hown1 hgrow hat hlt'
                  have hv9 := fun g e => And.intro (HO2.out.1.lt g e).1 (HO2.out.2.1 g e).1
                  have hO3 := Lib.hid (Out.row HO2.out HR2.out hx2.out.2.2.1 (by omega) hgrow hown1 hat hlt')
                  obtain ⟨t0, t1, t2, t3⟩ := HQ.out _ _ _ _ _ ⟨cell_old _ HT1.out.1, cell_old _ HT1.out.2.1, fro_old _ (by have := hx2.out.2.2.1; omega) HT1.out.2.2.1, fro_old _ (by have := hx2.out.2.2.1; omega) HT1.out.2.2.2⟩ hgrow hv9 (by have := hx2.out.2.2.1; simp; omega)
                  have hx3 := Lib.hid (HA5.out _ _ _ ⟨cell_old _ hx2.out.1, cell_old _ hx2.out.2.1, Nat.le_trans hx2.out.2.2.1 (by simp), hx2.out.2.2.2.alloc (by have := hx2.out.2.2.1; omega) _⟩ hgrow hv9)
                  clear hown1 hgrow hat hv9
                  refine hK.out _ _ ?_ (fun hHeld => ?_)
                  · exact hx3.out
                  clear hK K
                  try simp only [List.getElem_toArray, List.getElem_cons_succ, List.getElem_cons_zero, Act.put, List.setIfInBounds_toArray, List.set_cons_zero, List.set_cons_succ]
                  refine wpAnyH_take (i := 12) (v := ?_) rfl (by kernel_rfl) (by kernel_rfl) (by kernel_rfl) (fun _ _ _ h => h) (Or.inl ⟨by rfl, ?_⟩) (by assumption) ?_
                  rotate_left
                  · intro w9 hSw; (try dsimp only at hSw); go_simp; try with_reducible rfl
                  try simp only [List.getElem_toArray, List.getElem_cons_succ, List.getElem_cons_zero, Act.put, List.setIfInBounds_toArray, List.set_cons_zero, List.set_cons_succ]
                  refine wpAnyH_ready (rs := [13]) (by kernel_rfl) (by simp) ?_
                  refine AllReadyH.cons rfl (fun K hK => ?_) ?_
                  · go_simp
                    refine hK.out _ _ ?_ (fun hHeld => ?_)
                    · exact ⟨cell_set hx3.out.1 (by simp; omega) _, cell_set hx3.out.2.1 (by simp; omega) _, by rw [size_set]; exact hx3.out.2.2.1, hx3.out.2.2.2.setCell (by simp; omega) _⟩
                    clear hK K
                    try simp only [List.getElem_toArray, List.getElem_cons_succ, List.getElem_cons_zero, Act.put, List.setIfInBounds_toArray, List.set_cons_zero, List.set_cons_succ]
                    refine wpAnyH_done (by kernel_rfl) ?_ _
                    refine NoPanic.normal ?_
                    have HO6 := Lib.hid (show Out w1.heap.size (wl.heap.size) (w3.setCell ⟨wl.heap.size, 0, none⟩ (Value.slice (some ⟨gg, 0, none⟩) (RR.length + 1) cap)).heap.size (w3.setCell ⟨wl.heap.size, 0, none⟩ (Value.slice (some ⟨gg, 0, none⟩) (RR.length + 1) cap)) (Value.slice (some ⟨gg, 0, none⟩) (RR.length + 1) cap) l (cs ++ [.slice (some ⟨g1, 0, none⟩) (r.length + 1) cap1]) (RR ++ [lf r]) zs from by rw [size_set]; exact hO3.out.set 0 _)
                    have HY6 := Lib.hid (show (w3.setCell ⟨wl.heap.size, 0, none⟩ (Value.slice (some ⟨gg, 0, none⟩) (RR.length + 1) cap)).cell? ⟨wl.heap.size, 0, none⟩ = some ((Value.slice (some ⟨gg, 0, none⟩) (RR.length + 1) cap)) ∧ (w3.setCell ⟨wl.heap.size, 0, none⟩ (Value.slice (some ⟨gg, 0, none⟩) (RR.length + 1) cap)).cell? ⟨wl.heap.size, 1, none⟩ = some (l) ∧ (w3.setCell ⟨wl.heap.size, 0, none⟩ (Value.slice (some ⟨gg, 0, none⟩) (RR.length + 1) cap)).frozen? ⟨wl.heap.size, 0, none⟩ = false ∧ (w3.setCell ⟨wl.heap.size, 0, none⟩ (Value.slice (some ⟨gg, 0, none⟩) (RR.length + 1) cap)).frozen? ⟨wl.heap.size, 1, none⟩ = false from ⟨World.cell?_setCell_same _ _ _ t0, (World.cell?_setCell_other _ _ _ _ (by simp)).trans t1, by rw [World.frozen?_setCell]; exact t2, by rw [World.frozen?_setCell]; exact t3⟩)
                    have hb6 := Lib.hid hHeld.2.2.2
                    have hs6 : wl.heap.size + 1 ≤ (w3.setCell ⟨wl.heap.size, 0, none⟩ (Value.slice (some ⟨gg, 0, none⟩) (RR.length + 1) cap)).heap.size := by have := hHeld.2.2.1; omega
                    clear hHeld t0 t1 t2 t3
                    go_wp2_with fail
                    go_roundw
                    case rel => exact ⟨k + 1, _, _, _, by omega, by go_num, HY6, by rw [HSR.out]; exact HO6, hb6, hs6⟩
                    case measure => simp [intOf]; omega
                  exact AllReadyH.nil
                exact AllReadyH.nil
              exact AllReadyH.nil
            exact AllReadyH.nil
          exact AllReadyH.nil
        refine AllReadyH.cons rfl (fun K hK => ?_) ?_
        · go_simp
          refine Calls.mono (HT0.out _ ?_ ?_ ?_) ?_
          · exact hHeld
          · exact ⟨cell_oldD _ HC.out.1, cell_oldD _ HC.out.2.1, fro_oldD _ (by omega) HC.out.2.2.1, fro_oldD _ (by omega) HC.out.2.2.2⟩
          · exact HO.out.below (below_alloc wr _).drew
          rintro e va ⟨p1, q1, rfl, ho0, hb0, hO0, ⟨q0_0, q0_1, q0_2, q0_3⟩, hbx⟩
          refine hK.out _ _ ?_ (fun hHeld => ?_)
          · exact hbx
          clear hK K
          try simp only [List.getElem_toArray, List.getElem_cons_succ, List.getElem_cons_zero, Act.put, List.setIfInBounds_toArray, List.set_cons_zero, List.set_cons_succ]
          have HU := Lib.hid (show ∃ lo9, (va.ownsRow lo9 3 1 (.slice p1 r.length q1) r.length (r.map (Value.int .i64)) ∧ wr.heap.size ≤ lo9 ∧ lo9 ≤ va.heap.size) ∧ (va.cell? ⟨wr.heap.size, 0, none⟩ = some (.int .i64 (-1))) ∧ (Out w1.heap.size (wl.heap.size) wr.heap.size va v l cs RR zs) ∧ (va.cell? ⟨wl.heap.size, 0, none⟩ = some (v) ∧ va.cell? ⟨wl.heap.size, 1, none⟩ = some (l) ∧ va.frozen? ⟨wl.heap.size, 0, none⟩ = false ∧ va.frozen? ⟨wl.heap.size, 1, none⟩ = false) ∧ va.cell? ⟨w.heap.size, 0, none⟩ = some (.slice (some ⟨bl, off, none⟩) rows.length c) ∧ va.cell? ⟨bl, off + k, none⟩ = some (.slice rp r.length rq) ∧ wr.heap.size ≤ va.heap.size ∧ Below w1.heap.size w1 va from ⟨_, ⟨ho0, by simp, hb0.size⟩, cell_below hb0 (cell_new wr _ _ rfl rfl) (by simp), hO0, ⟨q0_0, q0_1, q0_2, q0_3⟩, hHeld⟩)
          clear ho0 hb0 hO0
          clear q0_1 q0_2 q0_3
          refine wpAnyH_ready (rs := [1, 9]) (by kernel_rfl) (by simp) ?_
          refine AllReadyH.cons rfl (fun K hK => ?_) ?_
          · go_simp
            refine hK.out _ _ ?_ (fun hHeld => ?_)
            · exact hHeld
            clear hK K
            try simp only [List.getElem_toArray, List.getElem_cons_succ, List.getElem_cons_zero, Act.put, List.setIfInBounds_toArray, List.set_cons_zero, List.set_cons_succ]
            refine wpAnyH_ready (rs := [9]) (by kernel_rfl) (by simp) ?_
            refine AllReadyH.cons rfl (fun K hK => ?_) ?_
            · obtain ⟨lo9, ⟨ho9, hl9, hl8⟩, hn9, hO9, hq9, hs9⟩ := HU.out
              (refine step_append_lies _ (by rfl) _ _ _ (by rfl) lo9 3 iI _ 1 8 Try.underlying23 hi' hz0' hz1' hz2' rfl (by omega) (.slice p1 r.length q1) r.length (r.map (Value.int .i64)) (by rfl) ho9 ⟨wr.heap.size, 0, none⟩ 1 1 [.int .i64 (-1)] (by rfl) (by rfl) (fun j u hj => by (have h7 : j = 0 := by (have := (List.getElem?_eq_some_iff.1 hj).1; simp at this; exact this)); subst h7; simp at hj; subst hj; simpa [Addr.add] using hn9) (by simp [Value.oneCell']) (by omega) (by unfold maxLen; omega) (by omega) hl8 _ rfl ?_)
              intro g1 cap1 wB hown9 hgrow9 hat9 hlt9
              have ho8 : ∀ g, (Value.slice p1 r.length q1).ownBlock = some g → wr.heap.size ≤ g := fun g e => Nat.le_trans hl9 (ho9.lt g e).1
              have HO2 := Lib.hid (Out.grown hO9 hgrow9 ho8)
              obtain ⟨t0, t1, t2, t3⟩ := HQ.out _ _ _ _ _ hq9 hgrow9 (fun g e => ⟨by have := ho8 g e; omega, by have := ho8 g e; omega⟩) (by have := hs9.2.2.1; omega)
              have hx2 := Lib.hid (HA5.out _ _ _ hs9 hgrow9 (fun g e => ⟨by have := ho8 g e; omega, by have := ho8 g e; omega⟩))
              have HR2 := Lib.hid (show OwnI wr.heap.size wB.heap.size wB (.slice (some ⟨g1, 0, none⟩) (r.length + 1) cap1) (lf r) from (OwnI.of (lo := lo9) (by rw [lf_length]; simpa [lf] using hown9)).mono hl9 (Nat.le_refl _))
              have z1 := t0
              have HT1 := Lib.hid (And.intro t0 (And.intro t1 (And.intro t2 t3)))
              clear t0 t1 t2 t3 hown9 hgrow9 hat9 hn9 hO9 hq9 hs9 HU ho9 ho8
              refine hK.out _ _ ?_ (fun hHeld => ?_)
              · exact hx2.out
              clear hK K
              try simp only [List.getElem_toArray, List.getElem_cons_succ, List.getElem_cons_zero, Act.put, List.setIfInBounds_toArray, List.set_cons_zero, List.set_cons_succ]
              refine wpAnyH_ready (rs := [10]) (by kernel_rfl) (by simp) ?_
              refine AllReadyH.cons rfl (fun K hK => ?_) ?_
              · go_simp
                refine hK.out _ _ ?_ (fun hHeld => ?_)
                · exact ⟨cell_old _ hx2.out.1, cell_old _ hx2.out.2.1, Nat.le_trans hx2.out.2.2.1 (by simp), hx2.out.2.2.2.alloc (by have := hx2.out.2.2.1; omega) _⟩
                clear hK K
                try simp only [List.getElem_toArray, List.getElem_cons_succ, List.getElem_cons_zero, Act.put, List.setIfInBounds_toArray, List.set_cons_zero, List.set_cons_succ]
                have z2 : ∀ O, (wB.alloc O).cell? ⟨wl.heap.size, 0, none⟩ = some v := fun O => cell_old O z1
                refine wpAnyH_ready (rs := [11]) (by kernel_rfl) (by simp) ?_
                refine AllReadyH.cons rfl (fun K hK => ?_) ?_
                · (refine step_append_lies _ (by rfl) _ _ _ (by rfl) w1.heap.size 23 i0 _ 1 24 Try.underlying22 hi hz0 hz1 hz2 rfl (by omega) v RR.length cs (by rfl) (HO2.out.1.alloc _) ⟨wB.heap.size, 0, none⟩ 1 1 [.slice (some ⟨g1, 0, none⟩) (r.length + 1) cap1] (by rfl) (by rfl) (World.news_of_block (cs := #[.slice (some ⟨g1, 0, none⟩) (r.length + 1) cap1]) (t := 23) (fr := (0, 0)) (heap_alloc_new wB _)) (by simp [Value.oneCell']) (by omega) (by have := HRl.out; unfold maxLen; omega) (by have := HRl.out; omega) (Nat.le_trans (by omega) (Nat.le_trans hx2.out.2.2.1 (by simp))) (wB.heap.size + 1) (by simp) ?_)
                  intro gg cap w3 hown1 hgrow hat hlt'
                  have hv9 := fun g e => And.intro (HO2.out.1.lt g e).1 (HO2.out.2.1 g e).1
                  have hO3 := Lib.hid (Out.row HO2.out HR2.out hx2.out.2.2.1 (by omega) hgrow hown1 hat hlt')
                  obtain ⟨t0, t1, t2, t3⟩ := HQ.out _ _ _ _ _ ⟨cell_old _ HT1.out.1, cell_old _ HT1.out.2.1, fro_old _ (by have := hx2.out.2.2.1; omega) HT1.out.2.2.1, fro_old _ (by have := hx2.out.2.2.1; omega) HT1.out.2.2.2⟩ hgrow hv9 (by have := hx2.out.2.2.1; simp; omega)
                  have hx3 := Lib.hid (HA5.out _ _ _ ⟨cell_old _ hx2.out.1, cell_old _ hx2.out.2.1, Nat.le_trans hx2.out.2.2.1 (by simp), hx2.out.2.2.2.alloc (by have := hx2.out.2.2.1; omega) _⟩ hgrow hv9)
                  clear hown1 hgrow hat hv9
                  refine hK.out _ _ ?_ (fun hHeld => ?_)
                  · exact hx3.out
                  clear hK K
                  try simp only [List.getElem_toArray, List.getElem_cons_succ, List.getElem_cons_zero, Act.put, List.setIfInBounds_toArray, List.set_cons_zero, List.set_cons_succ]
                  refine wpAnyH_take (i := 12) (v := ?_) rfl (by kernel_rfl) (by kernel_rfl) (by kernel_rfl) (fun _ _ _ h => h) (Or.inl ⟨by rfl, ?_⟩) (by assumption) ?_
                  rotate_left
                  · intro w9 hSw; (try dsimp only at hSw); go_simp; try with_reducible rfl
                  try simp only [List.getElem_toArray, List.getElem_cons_succ, List.getElem_cons_zero, Act.put, List.setIfInBounds_toArray, List.set_cons_zero, List.set_cons_succ]
                  refine wpAnyH_ready (rs := [13]) (by kernel_rfl) (by simp) ?_
                  refine AllReadyH.cons rfl (fun K hK => ?_) ?_
                  · go_simp
                    refine hK.out _ _ ?_ (fun hHeld => ?_)
                    · exact ⟨cell_set hx3.out.1 (by simp; omega) _, cell_set hx3.out.2.1 (by simp; omega) _, by rw [size_set]; exact hx3.out.2.2.1, hx3.out.2.2.2.setCell (by simp; omega) _⟩
                    clear hK K
                    try simp only [List.getElem_toArray, List.getElem_cons_succ, List.getElem_cons_zero, Act.put, List.setIfInBounds_toArray, List.set_cons_zero, List.set_cons_succ]
                    refine wpAnyH_done (by kernel_rfl) ?_ _
                    refine NoPanic.normal ?_
                    have HO6 := Lib.hid (show Out w1.heap.size (wl.heap.size) (w3.setCell ⟨wl.heap.size, 0, none⟩ (Value.slice (some ⟨gg, 0, none⟩) (RR.length + 1) cap)).heap.size (w3.setCell ⟨wl.heap.size, 0, none⟩ (Value.slice (some ⟨gg, 0, none⟩) (RR.length + 1) cap)) (Value.slice (some ⟨gg, 0, none⟩) (RR.length + 1) cap) l (cs ++ [.slice (some ⟨g1, 0, none⟩) (r.length + 1) cap1]) (RR ++ [lf r]) zs from by rw [size_set]; exact hO3.out.set 0 _)
                    have HY6 := Lib.hid (show (w3.setCell ⟨wl.heap.size, 0, none⟩ (Value.slice (some ⟨gg, 0, none⟩) (RR.length + 1) cap)).cell? ⟨wl.heap.size, 0, none⟩ = some ((Value.slice (some ⟨gg, 0, none⟩) (RR.length + 1) cap)) ∧ (w3.setCell ⟨wl.heap.size, 0, none⟩ (Value.slice (some ⟨gg, 0, none⟩) (RR.length + 1) cap)).cell? ⟨wl.heap.size, 1, none⟩ = some (l) ∧ (w3.setCell ⟨wl.heap.size, 0, none⟩ (Value.slice (some ⟨gg, 0, none⟩) (RR.length + 1) cap)).frozen? ⟨wl.heap.size, 0, none⟩ = false ∧ (w3.setCell ⟨wl.heap.size, 0, none⟩ (Value.slice (some ⟨gg, 0, none⟩) (RR.length + 1) cap)).frozen? ⟨wl.heap.size, 1, none⟩ = false from ⟨World.cell?_setCell_same _ _ _ t0, (World.cell?_setCell_other _ _ _ _ (by simp)).trans t1, by rw [World.frozen?_setCell]; exact t2, by rw [World.frozen?_setCell]; exact t3⟩)
                    have hb6 := Lib.hid hHeld.2.2.2
                    have hs6 : wl.heap.size + 1 ≤ (w3.setCell ⟨wl.heap.size, 0, none⟩ (Value.slice (some ⟨gg, 0, none⟩) (RR.length + 1) cap)).heap.size := by have := hHeld.2.2.1; omega
                    clear hHeld t0 t1 t2 t3
                    go_wp2_with fail
                    go_roundw
                    case rel => exact ⟨k + 1, _, _, _, by omega, by go_num, HY6, by rw [HSR.out]; exact HO6, hb6, hs6⟩
                    case measure => simp [intOf]; omega
                  exact AllReadyH.nil
                exact AllReadyH.nil
              exact AllReadyH.nil
            exact AllReadyH.nil
          refine AllReadyH.cons rfl (fun K hK => ?_) ?_
          · obtain ⟨lo9, ⟨ho9, hl9, hl8⟩, hn9, hO9, hq9, hs9⟩ := HU.out
            (refine step_append_lies _ (by rfl) _ _ _ (by rfl) lo9 3 iI _ 1 8 Try.underlying23 hi' hz0' hz1' hz2' rfl (by omega) (.slice p1 r.length q1) r.length (r.map (Value.int .i64)) (by rfl) ho9 ⟨wr.heap.size, 0, none⟩ 1 1 [.int .i64 (-1)] (by rfl) (by rfl) (fun j u hj => by (have h7 : j = 0 := by (have := (List.getElem?_eq_some_iff.1 hj).1; simp at this; exact this)); subst h7; simp at hj; subst hj; simpa [Addr.add] using hn9) (by simp [Value.oneCell']) (by omega) (by unfold maxLen; omega) (by omega) hl8 _ rfl ?_)
            intro g1 cap1 wB hown9 hgrow9 hat9 hlt9
            have ho8 : ∀ g, (Value.slice p1 r.length q1).ownBlock = some g → wr.heap.size ≤ g := fun g e => Nat.le_trans hl9 (ho9.lt g e).1
            have HO2 := Lib.hid (Out.grown hO9 hgrow9 ho8)
            obtain ⟨t0, t1, t2, t3⟩ := HQ.out _ _ _ _ _ hq9 hgrow9 (fun g e => ⟨by have := ho8 g e; omega, by have := ho8 g e; omega⟩) (by have := hs9.2.2.1; omega)
            have hx2 := Lib.hid (HA5.out _ _ _ hs9 hgrow9 (fun g e => ⟨by have := ho8 g e; omega, by have := ho8 g e; omega⟩))
            have HR2 := Lib.hid (show OwnI wr.heap.size wB.heap.size wB (.slice (some ⟨g1, 0, none⟩) (r.length + 1) cap1) (lf r) from (OwnI.of (lo := lo9) (by rw [lf_length]; simpa [lf] using hown9)).mono hl9 (Nat.le_refl _))
            have z1 := t0
            have HT1 := Lib.hid (And.intro t0 (And.intro t1 (And.intro t2 t3)))
            clear t0 t1 t2 t3 hown9 hgrow9 hat9 hn9 hO9 hq9 hs9 HU ho9 ho8
            refine hK.out _ _ ?_ (fun hHeld => ?_)
            · exact hx2.out
            clear hK K
            try simp only [List.getElem_toArray, List.getElem_cons_succ, List.getElem_cons_zero, Act.put, List.setIfInBounds_toArray, List.set_cons_zero, List.set_cons_succ]
            refine wpAnyH_ready (rs := [1, 10]) (by kernel_rfl) (by simp) ?_
            refine AllReadyH.cons rfl (fun K hK => ?_) ?_
            · go_simp
              refine hK.out _ _ ?_ (fun hHeld => ?_)
              · exact hHeld
              clear hK K
              try simp only [List.getElem_toArray, List.getElem_cons_succ, List.getElem_cons_zero, Act.put, List.setIfInBounds_toArray, List.set_cons_zero, List.set_cons_succ]
              refine wpAnyH_ready (rs := [10]) (by kernel_rfl) (by simp) ?_
              refine AllReadyH.cons rfl (fun K hK => ?_) ?_
              · go_simp
                refine hK.out _ _ ?_ (fun hHeld => ?_)
                · exact ⟨cell_old _ hx2.out.1, cell_old _ hx2.out.2.1, Nat.le_trans hx2.out.2.2.1 (by simp), hx2.out.2.2.2.alloc (by have := hx2.out.2.2.1; omega) _⟩
                clear hK K
                try simp only [List.getElem_toArray, List.getElem_cons_succ, List.getElem_cons_zero, Act.put, List.setIfInBounds_toArray, List.set_cons_zero, List.set_cons_succ]
                have z2 : ∀ O, (wB.alloc O).cell? ⟨wl.heap.size, 0, none⟩ = some v := fun O => cell_old O z1
                refine wpAnyH_ready (rs := [11]) (by kernel_rfl) (by simp) ?_
                refine AllReadyH.cons rfl (fun K hK => ?_) ?_
                · (refine step_append_lies _ (by rfl) _ _ _ (by rfl) w1.heap.size 23 i0 _ 1 24 Try.underlying22 hi hz0 hz1 hz2 rfl (by omega) v RR.length cs (by rfl) (HO2.out.1.alloc _) ⟨wB.heap.size, 0, none⟩ 1 1 [.slice (some ⟨g1, 0, none⟩) (r.length + 1) cap1] (by rfl) (by rfl) (World.news_of_block (cs := #[.slice (some ⟨g1, 0, none⟩) (r.length + 1) cap1]) (t := 23) (fr := (0, 0)) (heap_alloc_new wB _)) (by simp [Value.oneCell']) (by omega) (by have := HRl.out; unfold maxLen; omega) (by have := HRl.out; omega) (Nat.le_trans (by omega) (Nat.le_trans hx2.out.2.2.1 (by simp))) (wB.heap.size + 1) (by simp) ?_)
                  intro gg cap w3 hown1 hgrow hat hlt'
                  have hv9 := fun g e => And.intro (HO2.out.1.lt g e).1 (HO2.out.2.1 g e).1
                  have hO3 := Lib.hid (Out.row HO2.out HR2.out hx2.out.2.2.1 (by omega) hgrow hown1 hat hlt')
                  obtain ⟨t0, t1, t2, t3⟩ := HQ.out _ _ _ _ _ ⟨cell_old _ HT1.out.1, cell_old _ HT1.out.2.1, fro_old _ (by have := hx2.out.2.2.1; omega) HT1.out.2.2.1, fro_old _ (by have := hx2.out.2.2.1; omega) HT1.out.2.2.2⟩ hgrow hv9 (by have := hx2.out.2.2.1; simp; omega)
                  have hx3 := Lib.hid (HA5.out _ _ _ ⟨cell_old _ hx2.out.1, cell_old _ hx2.out.2.1, Nat.le_trans hx2.out.2.2.1 (by simp), hx2.out.2.2.2.alloc (by have := hx2.out.2.2.1; omega) _⟩ hgrow hv9)
                  clear hown1 hgrow hat hv9
                  refine hK.out _ _ ?_ (fun hHeld => ?_)
                  · exact hx3.out
                  clear hK K
                  try simp only [List.getElem_toArray, List.getElem_cons_succ, List.getElem_cons_zero, Act.put, List.setIfInBounds_toArray, List.set_cons_zero, List.set_cons_succ]
                  refine wpAnyH_take (i := 12) (v := ?_) rfl (by kernel_rfl) (by kernel_rfl) (by kernel_rfl) (fun _ _ _ h => h) (Or.inl ⟨by rfl, ?_⟩) (by assumption) ?_
                  rotate_left
                  · intro w9 hSw; (try dsimp only at hSw); go_simp; try with_reducible rfl
                  try simp only [List.getElem_toArray, List.getElem_cons_succ, List.getElem_cons_zero, Act.put, List.setIfInBounds_toArray, List.set_cons_zero, List.set_cons_succ]
                  refine wpAnyH_ready (rs := [13]) (by kernel_rfl) (by simp) ?_
                  refine AllReadyH.cons rfl (fun K hK => ?_) ?_
                  · go_simp
                    refine hK.out _ _ ?_ (fun hHeld => ?_)
                    · exact ⟨cell_set hx3.out.1 (by simp; omega) _, cell_set hx3.out.2.1 (by simp; omega) _, by rw [size_set]; exact hx3.out.2.2.1, hx3.out.2.2.2.setCell (by simp; omega) _⟩
                    clear hK K
                    try simp only [List.getElem_toArray, List.getElem_cons_succ, List.getElem_cons_zero, Act.put, List.setIfInBounds_toArray, List.set_cons_zero, List.set_cons_succ]
                    refine wpAnyH_done (by kernel_rfl) ?_ _
                    refine NoPanic.normal ?_
                    have HO6 := Lib.hid (show Out w1.heap.size (wl.heap.size) (w3.setCell ⟨wl.heap.size, 0, none⟩ (Value.slice (some ⟨gg, 0, none⟩) (RR.length + 1) cap)).heap.size (w3.setCell ⟨wl.heap.size, 0, none⟩ (Value.slice (some ⟨gg, 0, none⟩) (RR.length + 1) cap)) (Value.slice (some ⟨gg, 0, none⟩) (RR.length + 1) cap) l (cs ++ [.slice (some ⟨g1, 0, none⟩) (r.length + 1) cap1]) (RR ++ [lf r]) zs from by rw [size_set]; exact hO3.out.set 0 _)
                    have HY6 := Lib.hid (show (w3.setCell ⟨wl.heap.size, 0, none⟩ (Value.slice (some ⟨gg, 0, none⟩) (RR.length + 1) cap)).cell? ⟨wl.heap.size, 0, none⟩ = some ((Value.slice (some ⟨gg, 0, none⟩) (RR.length + 1) cap)) ∧ (w3.setCell ⟨wl.heap.size, 0, none⟩ (Value.slice (some ⟨gg, 0, none⟩) (RR.length + 1) cap)).cell? ⟨wl.heap.size, 1, none⟩ = some (l) ∧ (w3.setCell ⟨wl.heap.size, 0, none⟩ (Value.slice (some ⟨gg, 0, none⟩) (RR.length + 1) cap)).frozen? ⟨wl.heap.size, 0, none⟩ = false ∧ (w3.setCell ⟨wl.heap.size, 0, none⟩ (Value.slice (some ⟨gg, 0, none⟩) (RR.length + 1) cap)).frozen? ⟨wl.heap.size, 1, none⟩ = false from ⟨World.cell?_setCell_same _ _ _ t0, (World.cell?_setCell_other _ _ _ _ (by simp)).trans t1, by rw [World.frozen?_setCell]; exact t2, by rw [World.frozen?_setCell]; exact t3⟩)
                    have hb6 := Lib.hid hHeld.2.2.2
                    have hs6 : wl.heap.size + 1 ≤ (w3.setCell ⟨wl.heap.size, 0, none⟩ (Value.slice (some ⟨gg, 0, none⟩) (RR.length + 1) cap)).heap.size := by have := hHeld.2.2.1; omega
                    clear hHeld t0 t1 t2 t3
                    go_wp2_with fail
                    go_roundw
                    case rel => exact ⟨k + 1, _, _, _, by omega, by go_num, HY6, by rw [HSR.out]; exact HO6, hb6, hs6⟩
                    case measure => simp [intOf]; omega
                  exact AllReadyH.nil
                exact AllReadyH.nil
              exact AllReadyH.nil
            refine AllReadyH.cons rfl (fun K hK => ?_) ?_
            · go_simp
              refine hK.out _ _ ?_ (fun hHeld => ?_)
              · exact ⟨cell_old _ hx2.out.1, cell_old _ hx2.out.2.1, Nat.le_trans hx2.out.2.2.1 (by simp), hx2.out.2.2.2.alloc (by have := hx2.out.2.2.1; omega) _⟩
              clear hK K
              try simp only [List.getElem_toArray, List.getElem_cons_succ, List.getElem_cons_zero, Act.put, List.setIfInBounds_toArray, List.set_cons_zero, List.set_cons_succ]
              have z2 : ∀ O, (wB.alloc O).cell? ⟨wl.heap.size, 0, none⟩ = some v := fun O => cell_old O z1
              refine wpAnyH_ready (rs := [1]) (by kernel_rfl) (by simp) ?_
              refine AllReadyH.cons rfl (fun K hK => ?_) ?_
              · go_simp
                refine hK.out _ _ ?_ (fun hHeld => ?_)
                · exact hHeld
                clear hK K
                try simp only [List.getElem_toArray, List.getElem_cons_succ, List.getElem_cons_zero, Act.put, List.setIfInBounds_toArray, List.set_cons_zero, List.set_cons_succ]
                refine wpAnyH_ready (rs := [11]) (by kernel_rfl) (by simp) ?_
                refine AllReadyH.cons rfl (fun K hK => ?_) ?_
                · (refine step_append_lies _ (by rfl) _ _ _ (by rfl) w1.heap.size 23 i0 _ 1 24 Try.underlying22 hi hz0 hz1 hz2 rfl (by omega) v RR.length cs (by rfl) (HO2.out.1.alloc _) ⟨wB.heap.size, 0, none⟩ 1 1 [.slice (some ⟨g1, 0, none⟩) (r.length + 1) cap1] (by rfl) (by rfl) (World.news_of_block (cs := #[.slice (some ⟨g1, 0, none⟩) (r.length + 1) cap1]) (t := 23) (fr := (0, 0)) (heap_alloc_new wB _)) (by simp [Value.oneCell']) (by omega) (by have := HRl.out; unfold maxLen; omega) (by have := HRl.out; omega) (Nat.le_trans (by omega) (Nat.le_trans hx2.out.2.2.1 (by simp))) (wB.heap.size + 1) (by simp) ?_)
                  intro gg cap w3 hown1 hgrow hat hlt'
                  have hv9 := fun g e => And.intro (HO2.out.1.lt g e).1 (HO2.out.2.1 g e).1
                  have hO3 := Lib.hid (Out.row HO2.out HR2.out hx2.out.2.2.1 (by omega) hgrow hown1 hat hlt')
                  obtain ⟨t0, t1, t2, t3⟩ := HQ.out _ _ _ _ _ ⟨cell_old _ HT1.out.1, cell_old _ HT1.out.2.1, fro_old _ (by have := hx2.out.2.2.1; omega) HT1.out.2.2.1, fro_old _ (by have := hx2.out.2.2.1; omega) HT1.out.2.2.2⟩ hgrow hv9 (by have := hx2.out.2.2.1; simp; omega)
                  have hx3 := Lib.hid (HA5.out _ _ _ ⟨cell_old _ hx2.out.1, cell_old _ hx2.out.2.1, Nat.le_trans hx2.out.2.2.1 (by simp), hx2.out.2.2.2.alloc (by have := hx2.out.2.2.1; omega) _⟩ hgrow hv9)
                  clear hown1 hgrow hat hv9
                  refine hK.out _ _ ?_ (fun hHeld => ?_)
                  · exact hx3.out
                  clear hK K
                  try simp only [List.getElem_toArray, List.getElem_cons_succ, List.getElem_cons_zero, Act.put, List.setIfInBounds_toArray, List.set_cons_zero, List.set_cons_succ]
                  refine wpAnyH_take (i := 12) (v := ?_) rfl (by kernel_rfl) (by kernel_rfl) (by kernel_rfl) (fun _ _ _ h => h) (Or.inl ⟨by rfl, ?_⟩) (by assumption) ?_
                  rotate_left
                  · intro w9 hSw; (try dsimp only at hSw); go_simp; try with_reducible rfl
                  try simp only [List.getElem_toArray, List.getElem_cons_succ, List.getElem_cons_zero, Act.put, List.setIfInBounds_toArray, List.set_cons_zero, List.set_cons_succ]
                  refine wpAnyH_ready (rs := [13]) (by kernel_rfl) (by simp) ?_
                  refine AllReadyH.cons rfl (fun K hK => ?_) ?_
                  · go_simp
                    refine hK.out _ _ ?_ (fun hHeld => ?_)
                    · exact ⟨cell_set hx3.out.1 (by simp; omega) _, cell_set hx3.out.2.1 (by simp; omega) _, by rw [size_set]; exact hx3.out.2.2.1, hx3.out.2.2.2.setCell (by simp; omega) _⟩
                    clear hK K
                    try simp only [List.getElem_toArray, List.getElem_cons_succ, List.getElem_cons_zero, Act.put, List.setIfInBounds_toArray, List.set_cons_zero, List.set_cons_succ]
                    refine wpAnyH_done (by kernel_rfl) ?_ _
                    refine NoPanic.normal ?_
                    have HO6 := Lib.hid (show Out w1.heap.size (wl.heap.size) (w3.setCell ⟨wl.heap.size, 0, none⟩ (Value.slice (some ⟨gg, 0, none⟩) (RR.length + 1) cap)).heap.size (w3.setCell ⟨wl.heap.size, 0, none⟩ (Value.slice (some ⟨gg, 0, none⟩) (RR.length + 1) cap)) (Value.slice (some ⟨gg, 0, none⟩) (RR.length + 1) cap) l (cs ++ [.slice (some ⟨g1, 0, none⟩) (r.length + 1) cap1]) (RR ++ [lf r]) zs from by rw [size_set]; exact hO3.out.set 0 _)
                    have HY6 := Lib.hid (show (w3.setCell ⟨wl.heap.size, 0, none⟩ (Value.slice (some ⟨gg, 0, none⟩) (RR.length + 1) cap)).cell? ⟨wl.heap.size, 0, none⟩ = some ((Value.slice (some ⟨gg, 0, none⟩) (RR.length + 1) cap)) ∧ (w3.setCell ⟨wl.heap.size, 0, none⟩ (Value.slice (some ⟨gg, 0, none⟩) (RR.length + 1) cap)).cell? ⟨wl.heap.size, 1, none⟩ = some (l) ∧ (w3.setCell ⟨wl.heap.size, 0, none⟩ (Value.slice (some ⟨gg, 0, none⟩) (RR.length + 1) cap)).frozen? ⟨wl.heap.size, 0, none⟩ = false ∧ (w3.setCell ⟨wl.heap.size, 0, none⟩ (Value.slice (some ⟨gg, 0, none⟩) (RR.length + 1) cap)).frozen? ⟨wl.heap.size, 1, none⟩ = false from ⟨World.cell?_setCell_same _ _ _ t0, (World.cell?_setCell_other _ _ _ _ (by simp)).trans t1, by rw [World.frozen?_setCell]; exact t2, by rw [World.frozen?_setCell]; exact t3⟩)
                    have hb6 := Lib.hid hHeld.2.2.2
                    have hs6 : wl.heap.size + 1 ≤ (w3.setCell ⟨wl.heap.size, 0, none⟩ (Value.slice (some ⟨gg, 0, none⟩) (RR.length + 1) cap)).heap.size := by have := hHeld.2.2.1; omega
                    clear hHeld t0 t1 t2 t3
                    go_wp2_with fail
                    go_roundw
                    case rel => exact ⟨k + 1, _, _, _, by omega, by go_num, HY6, by rw [HSR.out]; exact HO6, hb6, hs6⟩
                    case measure => simp [intOf]; omega
                  exact AllReadyH.nil
                exact AllReadyH.nil
              exact AllReadyH.nil
            exact AllReadyH.nil
          exact AllReadyH.nil
        exact AllReadyH.nil
      exact AllReadyH.nil
    · obtain rfl : k = rows.length := by omega
      have HS := Lib.hid (HO.out.toS (by omega))
      obtain ⟨y0, y1, _, _⟩ := HC.out
      have x1_0 := cell_below HBl.out HX1.out.1 (by omega)
      have x1_1 := cell_below HBl.out HX1.out.2.1 (by omega)
      have f1_0 := fro_below HBl.out HX1.out.2.2.1 (by omega)
      have f1_1 := fro_below HBl.out HX1.out.2.2.2 (by omega)
      have xh := cell_below HBl.out HX0.out (by omega)
      have HBE := Lib.hid (HBC.out.trans (HBl.out.mono (by omega)))
      have hs9 := HBl.out.size
      rw [pick_all] at HS
      generalize rows.map lf = RM at *
      obtain ⟨p1, q1, rfl, _, _, _⟩ := HS.out.grid.slice
      obtain ⟨p3, q3, rfl, _, _, _⟩ := HS.out.ints.slice
      go_wp2_with fail
      refine bodyPost_ret (v := .tuple #[.agg #[.slice p1 RM.length q1, .slice p3 zs.length q3], .bool true]) (by simp [results, Try.results25, go_sem, x1_0, x1_1]) rfl ⟨_, _, rfl, ?_, ?_⟩
      · simp only [size_set]; exact ((HS.out.set (by simp; omega) _).set (by simp; omega) _).mono (by omega) (Nat.le_refl _)
      · exact (HBE.out.setCell (by simp) _).setCell (by simp) _
end Go.Proofs.Ytocbklmkphgkeaa.lifts
