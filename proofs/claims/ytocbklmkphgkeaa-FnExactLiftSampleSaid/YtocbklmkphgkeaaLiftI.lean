/- The walks of the program's LiftSample. -/
import Derived.Test.YtocbklmkphgkeaaLiftS
import Derived.Test.YtocbklmkphgkeaaConcat
namespace Go.Proofs.Ytocbklmkphgkeaa.lifts
open Go.RowKit own own1 pp nums samplesv samplest samplefns rowscopy part moves
set_option linter.unusedVariables false
set_option linter.unusedSimpArgs false
attribute [local go_sem ↓] Go.wp_at_zero Go.wp_at_succ
set_option maxRecDepth 100000 in
set_option maxHeartbeats 4000000 in
theorem impl_lf (a : Option Addr) (xs : List Int) (c : Nat) (w : World) (hr : ints.Reads .i64 w a xs) (h0 : 0 < xs.length) (hn : xs.length ≤ 1048576) :
    Calls Try.prog 82 #[.slice a xs.length c] w (intfns.Made (lf xs) w) := by
  have Hhr := Lib.hid hr
  clear hr
  go_enter Try.func82, Try.ntmps82
  go_wp2_with fail
  have hbA := (below_alloc w (.cells #[.int .i64 (-1)] 3)).alloc (by simp) (.cells #[.slice a xs.length c, .slice (some ⟨w.heap.size, 0, none⟩) 1 1] 23)
  have c0 : ((w.alloc (.cells #[.int .i64 (-1)] 3)).alloc (.cells #[.slice a xs.length c, .slice (some ⟨w.heap.size, 0, none⟩) 1 1] 23)).cell? ⟨w.heap.size + 1, 0, none⟩ = some (.slice a xs.length c) := cell_new _ _ _ (by simp) rfl
  have c1 : ((w.alloc (.cells #[.int .i64 (-1)] 3)).alloc (.cells #[.slice a xs.length c, .slice (some ⟨w.heap.size, 0, none⟩) 1 1] 23)).cell? ⟨w.heap.size + 1, 1, none⟩ = some (.slice (some ⟨w.heap.size, 0, none⟩) [(-1 : Int)].length 1) := cell_new _ _ _ (by simp) rfl
  have hrb : ints.Reads .i64 ((w.alloc (.cells #[.int .i64 (-1)] 3)).alloc (.cells #[.slice a xs.length c, .slice (some ⟨w.heap.size, 0, none⟩) 1 1] 23)) (some ⟨w.heap.size, 0, none⟩) [-1] := Or.inr ⟨w.heap.size, 0, rfl, by first | (simp; done) | (simp; omega), fun i hi => by (have h9 : i = 0 := by (simp at hi; omega)); subst h9; exact cell_old _ (cell_new _ _ _ rfl rfl)⟩
  refine (concat.concat (w.heap.size + 1) 2 a xs c (some ⟨w.heap.size, 0, none⟩) [-1] 1 ((w.alloc (.cells #[.int .i64 (-1)] 3)).alloc (.cells #[.slice a xs.length c, .slice (some ⟨w.heap.size, 0, none⟩) 1 1] 23)) (Hhr.out.below hbA) hrb h0 (by simp) hn (by simp) c0 c1 (by simp)).mono ?_
  clear c0 c1 hrb
  rintro e w1 ⟨v, rfl, ho, hbB⟩
  have HF := Lib.hid (show intfns.Made (lf xs) w (.returned v) w1 from ⟨v, rfl, ho.mono (by simp; omega) (Nat.le_refl _), hbA.trans (hbB.mono (by simp; omega))⟩)
  clear ho hbA hbB
  go_wp2_with fail
  go_ret
  exact HF.out
set_option maxRecDepth 100000 in
set_option maxHeartbeats 4000000 in
theorem impl_no1 (a : Option Addr) (rows : List (List Int)) (c : Nat) (a' : Option Addr) (zs : List Int) (c' : Nat) (w : World) (hr : grid.Reads w a rows) (hz : ints.Reads .i64 w a' zs) (hn : rows.length ≤ 1048576) (hk : zs.length ≤ 1048576) (hm : ∀ r ∈ rows, r.length ≤ 1048576) (h : Hid (sampleB rows zs = false)) :
    Calls Try.prog 26 #[.agg #[.slice a rows.length c, .slice a' zs.length c']] w (RetSB [] [] false w) := by
  have HMM := Lib.hid hm
  clear hm
  have Hhr := Lib.hid hr
  have Hhz := Lib.hid hz
  clear hr hz
  go_enter Try.func26, Try.ntmps26
  go_wp2_with fail
  have x0_0 : (w.alloc (.cells #[.slice a rows.length c, .slice a' zs.length c'] 27)).cell? ⟨w.heap.size, 0, none⟩ = some (.slice a rows.length c) := cell_new _ _ _ (by simp) rfl
  have x0_1 : (w.alloc (.cells #[.slice a rows.length c, .slice a' zs.length c'] 27)).cell? ⟨w.heap.size, 1, none⟩ = some (.slice a' zs.length c') := cell_new _ _ _ (by simp) rfl
  have HB0 := Lib.hid (below_alloc w (.cells #[.slice a rows.length c, .slice a' zs.length c'] 27))
  replace x0_0 := cell_old (.cells #[.slice none 0 0, .slice none 0 0] 27) x0_0
  replace x0_1 := cell_old (.cells #[.slice none 0 0, .slice none 0 0] 27) x0_1
  have x1_0 : ((w.alloc (.cells #[.slice a rows.length c, .slice a' zs.length c'] 27)).alloc (.cells #[.slice none 0 0, .slice none 0 0] 27)).cell? ⟨w.heap.size + 1, 0, none⟩ = some (.slice none 0 0) := cell_new _ _ _ (by simp) rfl
  have x1_1 : ((w.alloc (.cells #[.slice a rows.length c, .slice a' zs.length c'] 27)).alloc (.cells #[.slice none 0 0, .slice none 0 0] 27)).cell? ⟨w.heap.size + 1, 1, none⟩ = some (.slice none 0 0) := cell_new _ _ _ (by simp) rfl
  have f1_0 : ((w.alloc (.cells #[.slice a rows.length c, .slice a' zs.length c'] 27)).alloc (.cells #[.slice none 0 0, .slice none 0 0] 27)).frozen? ⟨w.heap.size + 1, 0, none⟩ = false := fro_new _ _ _ (by simp)
  have f1_1 : ((w.alloc (.cells #[.slice a rows.length c, .slice a' zs.length c'] 27)).alloc (.cells #[.slice none 0 0, .slice none 0 0] 27)).frozen? ⟨w.heap.size + 1, 1, none⟩ = false := fro_new _ _ _ (by simp)
  replace HB0 := Lib.hid (HB0.out.alloc (by simp) (.cells #[.slice none 0 0, .slice none 0 0] 27))
  have s0 : w.heap.size + 2 ≤ ((w.alloc (.cells #[.slice a rows.length c, .slice a' zs.length c'] 27)).alloc (.cells #[.slice none 0 0, .slice none 0 0] 27)).heap.size := by simp
  generalize hw : ((w.alloc (.cells #[.slice a rows.length c, .slice a' zs.length c'] 27)).alloc (.cells #[.slice none 0 0, .slice none 0 0] 27)) = w0 at *
  clear hw
  have n0_0 : w.heap.size < w0.heap.size := by omega
  have n0_1 : w.heap.size + 1 < w0.heap.size := by omega
  refine (impl_sample a rows c a' zs c' _ (Hhr.out.below HB0.out) (Hhz.out.below HB0.out) hn hk HMM.out false h).mono ?_
  rintro e w1 ⟨rfl, hb⟩
  have s1 : w0.heap.size ≤ w1.heap.size := hb.size
  have n1_0 : w.heap.size < w1.heap.size := by omega
  have n1_1 : w.heap.size + 1 < w1.heap.size := by omega
  replace x0_0 := cell_below hb x0_0 (by omega)
  replace x0_1 := cell_below hb x0_1 (by omega)
  replace x1_0 := cell_below hb x1_0 (by omega)
  replace x1_1 := cell_below hb x1_1 (by omega)
  replace f1_0 := fro_below hb f1_0 (by omega)
  replace f1_1 := fro_below hb f1_1 (by omega)
  have HB1 := Lib.hid (HB0.out.trans (hb.mono (by omega)))
  clear hb
  go_wp2_with fail
  refine bodyPost_ret (v := .tuple #[.agg #[.slice none 0 0, .slice none 0 0], .bool false]) (by simp [results, Try.results26, go_sem, x1_0, x1_1]) rfl ⟨_, _, rfl, OwnS.of (OwnG.nil w.heap.size 0 _) (OwnI.nil w.heap.size 0 _) (.inl (Nat.zero_le _)) (Nat.le_refl _) (Nat.le_refl _) (Nat.zero_le _) (Nat.zero_le _), ?_⟩
  exact ((HB1.out.setCell (by simp) _).setCell (by simp) _)
set_option maxRecDepth 100000 in
set_option maxHeartbeats 4000000 in
theorem impl_no2 (a : Option Addr) (rows : List (List Int)) (c : Nat) (a' : Option Addr) (zs : List Int) (c' : Nat) (w : World) (hr : grid.Reads w a rows) (hz : ints.Reads .i64 w a' zs) (hn : rows.length ≤ 1048576) (hk : zs.length ≤ 1048576) (hm : ∀ r ∈ rows, r.length ≤ 1048576) (h1 : Hid (sampleB rows zs = true)) (h : rows.length = 0) :
    Calls Try.prog 26 #[.agg #[.slice a rows.length c, .slice a' zs.length c']] w (RetSB [] [] false w) := by
  have HMM := Lib.hid hm
  clear hm
  have g0 : ((rows.length : Int) == 0) = true := by rw [beq_iff_eq]; omega
  have H0 := Lib.hid h
  clear h
  have Hhr := Lib.hid hr
  have Hhz := Lib.hid hz
  clear hr hz
  go_enter Try.func26, Try.ntmps26
  go_wp2_with fail
  have x0_0 : (w.alloc (.cells #[.slice a rows.length c, .slice a' zs.length c'] 27)).cell? ⟨w.heap.size, 0, none⟩ = some (.slice a rows.length c) := cell_new _ _ _ (by simp) rfl
  have x0_1 : (w.alloc (.cells #[.slice a rows.length c, .slice a' zs.length c'] 27)).cell? ⟨w.heap.size, 1, none⟩ = some (.slice a' zs.length c') := cell_new _ _ _ (by simp) rfl
  have HB0 := Lib.hid (below_alloc w (.cells #[.slice a rows.length c, .slice a' zs.length c'] 27))
  replace x0_0 := cell_old (.cells #[.slice none 0 0, .slice none 0 0] 27) x0_0
  replace x0_1 := cell_old (.cells #[.slice none 0 0, .slice none 0 0] 27) x0_1
  have x1_0 : ((w.alloc (.cells #[.slice a rows.length c, .slice a' zs.length c'] 27)).alloc (.cells #[.slice none 0 0, .slice none 0 0] 27)).cell? ⟨w.heap.size + 1, 0, none⟩ = some (.slice none 0 0) := cell_new _ _ _ (by simp) rfl
  have x1_1 : ((w.alloc (.cells #[.slice a rows.length c, .slice a' zs.length c'] 27)).alloc (.cells #[.slice none 0 0, .slice none 0 0] 27)).cell? ⟨w.heap.size + 1, 1, none⟩ = some (.slice none 0 0) := cell_new _ _ _ (by simp) rfl
  have f1_0 : ((w.alloc (.cells #[.slice a rows.length c, .slice a' zs.length c'] 27)).alloc (.cells #[.slice none 0 0, .slice none 0 0] 27)).frozen? ⟨w.heap.size + 1, 0, none⟩ = false := fro_new _ _ _ (by simp)
  have f1_1 : ((w.alloc (.cells #[.slice a rows.length c, .slice a' zs.length c'] 27)).alloc (.cells #[.slice none 0 0, .slice none 0 0] 27)).frozen? ⟨w.heap.size + 1, 1, none⟩ = false := fro_new _ _ _ (by simp)
  replace HB0 := Lib.hid (HB0.out.alloc (by simp) (.cells #[.slice none 0 0, .slice none 0 0] 27))
  have s0 : w.heap.size + 2 ≤ ((w.alloc (.cells #[.slice a rows.length c, .slice a' zs.length c'] 27)).alloc (.cells #[.slice none 0 0, .slice none 0 0] 27)).heap.size := by simp
  generalize hw : ((w.alloc (.cells #[.slice a rows.length c, .slice a' zs.length c'] 27)).alloc (.cells #[.slice none 0 0, .slice none 0 0] 27)) = w0 at *
  clear hw
  have n0_0 : w.heap.size < w0.heap.size := by omega
  have n0_1 : w.heap.size + 1 < w0.heap.size := by omega
  refine (impl_sample a rows c a' zs c' _ (Hhr.out.below HB0.out) (Hhz.out.below HB0.out) hn hk HMM.out true h1).mono ?_
  rintro e w1 ⟨rfl, hb⟩
  have s1 : w0.heap.size ≤ w1.heap.size := hb.size
  have n1_0 : w.heap.size < w1.heap.size := by omega
  have n1_1 : w.heap.size + 1 < w1.heap.size := by omega
  replace x0_0 := cell_below hb x0_0 (by omega)
  replace x0_1 := cell_below hb x0_1 (by omega)
  replace x1_0 := cell_below hb x1_0 (by omega)
  replace x1_1 := cell_below hb x1_1 (by omega)
  replace f1_0 := fro_below hb f1_0 (by omega)
  replace f1_1 := fro_below hb f1_1 (by omega)
  have HB1 := Lib.hid (HB0.out.trans (hb.mono (by omega)))
  clear hb
  go_wp2_with fail
  refine bodyPost_ret (v := .tuple #[.agg #[.slice none 0 0, .slice none 0 0], .bool false]) (by simp [results, Try.results26, go_sem, x1_0, x1_1]) rfl ⟨_, _, rfl, OwnS.of (OwnG.nil w.heap.size 0 _) (OwnI.nil w.heap.size 0 _) (.inl (Nat.zero_le _)) (Nat.le_refl _) (Nat.le_refl _) (Nat.zero_le _) (Nat.zero_le _), ?_⟩
  exact ((HB1.out.setCell (by simp) _).setCell (by simp) _)
set_option maxRecDepth 100000 in
set_option maxHeartbeats 4000000 in
theorem impl_out (a : Option Addr) (rows : List (List Int)) (c : Nat) (a' : Option Addr) (zs : List Int) (c' : Nat) (w : World) (hr : grid.Reads w a rows) (hz : ints.Reads .i64 w a' zs) (hn : rows.length ≤ 1048576) (hk : zs.length ≤ 1048576) (hm : ∀ r ∈ rows, r.length ≤ 1048576) (h1 : Hid (sampleB rows zs = true)) (h0 : 0 < rows.length) (hl : (rows.getD 0 []).length = 4) :
    Calls Try.prog 26 #[.agg #[.slice a rows.length c, .slice a' zs.length c']] w (RetSB [] [] false w) := by
  have HMM := Lib.hid hm
  clear hm
  have HF := Lib.hid (show ∀ k, k < rows.length → (1 ≤ (rows.getD k []).length ∧ (rows.getD k []).length ≤ 4) from fun k hk => ⟨((pointB_iff _).1 (row_ok h1.out k hk).1).1, ((pointB_iff _).1 (row_ok h1.out k hk).1).2.1⟩)
  have HML := Lib.hid (show (∀ r ∈ rows.map lf, r.length ≤ 1048576) ∧ (rows.map lf).length ≤ 1048576 from ⟨map_len (fun k hk => by rw [lf_length]; have := (HF.out k hk).2; omega), by rw [List.length_map]; omega⟩)
  have g0 : ((rows.length : Int) == 0) = false := by rw [beq_eq_false_iff_ne]; omega
  have HSB := Lib.hid (show sampleB (rows.map lf) zs = false from lf_not h0 hl)
  clear hl h0
  have Hhr := Lib.hid hr
  have Hhz := Lib.hid hz
  clear hr hz
  go_enter Try.func26, Try.ntmps26
  go_wp2_with fail
  have x0_0 : (w.alloc (.cells #[.slice a rows.length c, .slice a' zs.length c'] 27)).cell? ⟨w.heap.size, 0, none⟩ = some (.slice a rows.length c) := cell_new _ _ _ (by simp) rfl
  have x0_1 : (w.alloc (.cells #[.slice a rows.length c, .slice a' zs.length c'] 27)).cell? ⟨w.heap.size, 1, none⟩ = some (.slice a' zs.length c') := cell_new _ _ _ (by simp) rfl
  have HB0 := Lib.hid (below_alloc w (.cells #[.slice a rows.length c, .slice a' zs.length c'] 27))
  replace x0_0 := cell_old (.cells #[.slice none 0 0, .slice none 0 0] 27) x0_0
  replace x0_1 := cell_old (.cells #[.slice none 0 0, .slice none 0 0] 27) x0_1
  have x1_0 : ((w.alloc (.cells #[.slice a rows.length c, .slice a' zs.length c'] 27)).alloc (.cells #[.slice none 0 0, .slice none 0 0] 27)).cell? ⟨w.heap.size + 1, 0, none⟩ = some (.slice none 0 0) := cell_new _ _ _ (by simp) rfl
  have x1_1 : ((w.alloc (.cells #[.slice a rows.length c, .slice a' zs.length c'] 27)).alloc (.cells #[.slice none 0 0, .slice none 0 0] 27)).cell? ⟨w.heap.size + 1, 1, none⟩ = some (.slice none 0 0) := cell_new _ _ _ (by simp) rfl
  have f1_0 : ((w.alloc (.cells #[.slice a rows.length c, .slice a' zs.length c'] 27)).alloc (.cells #[.slice none 0 0, .slice none 0 0] 27)).frozen? ⟨w.heap.size + 1, 0, none⟩ = false := fro_new _ _ _ (by simp)
  have f1_1 : ((w.alloc (.cells #[.slice a rows.length c, .slice a' zs.length c'] 27)).alloc (.cells #[.slice none 0 0, .slice none 0 0] 27)).frozen? ⟨w.heap.size + 1, 1, none⟩ = false := fro_new _ _ _ (by simp)
  replace HB0 := Lib.hid (HB0.out.alloc (by simp) (.cells #[.slice none 0 0, .slice none 0 0] 27))
  have s0 : w.heap.size + 2 ≤ ((w.alloc (.cells #[.slice a rows.length c, .slice a' zs.length c'] 27)).alloc (.cells #[.slice none 0 0, .slice none 0 0] 27)).heap.size := by simp
  generalize hw : ((w.alloc (.cells #[.slice a rows.length c, .slice a' zs.length c'] 27)).alloc (.cells #[.slice none 0 0, .slice none 0 0] 27)) = w0 at *
  clear hw
  have n0_0 : w.heap.size < w0.heap.size := by omega
  have n0_1 : w.heap.size + 1 < w0.heap.size := by omega
  refine (impl_sample a rows c a' zs c' _ (Hhr.out.below HB0.out) (Hhz.out.below HB0.out) hn hk HMM.out true h1).mono ?_
  rintro e w1 ⟨rfl, hb⟩
  have s1 : w0.heap.size ≤ w1.heap.size := hb.size
  have n1_0 : w.heap.size < w1.heap.size := by omega
  have n1_1 : w.heap.size + 1 < w1.heap.size := by omega
  replace x0_0 := cell_below hb x0_0 (by omega)
  replace x0_1 := cell_below hb x0_1 (by omega)
  replace x1_0 := cell_below hb x1_0 (by omega)
  replace x1_1 := cell_below hb x1_1 (by omega)
  replace f1_0 := fro_below hb f1_0 (by omega)
  replace f1_1 := fro_below hb f1_1 (by omega)
  have HB1 := Lib.hid (HB0.out.trans (hb.mono (by omega)))
  clear hb
  go_wp2_with fail
  have HCh := Lib.hid (show ∀ (k : Nat) (W : World) (p9 : Option Addr) (q9 : Nat), k < rows.length → Below w1.heap.size w1 W → ints.Reads .i64 W p9 (rows.getD k []) → Calls Try.prog 82 #[.slice p9 (rows.getD k []).length q9] W (intfns.Made (lf (rows.getD k [])) W) from fun k W p9 q9 hk9 hB9 hrd => impl_lf p9 _ q9 W hrd (by have := HF.out k hk9; omega) (by have := HF.out k hk9; omega))
  refine (changed.impl_lift lf a rows c a' zs c' _ (Hhr.out.below HB1.out) (Hhz.out.below HB1.out) hn hk HCh).mono ?_
  rintro e w2 ⟨pv, lv, rfl, ho, hb⟩
  generalize rows.map lf = RM at *
  obtain ⟨p1, q1, rfl, _, _, _⟩ := ho.grid.slice
  obtain ⟨p3, q3, rfl, _, _, _⟩ := ho.ints.slice
  have HOS := Lib.hid ho
  clear ho HCh
  have s2 : w1.heap.size ≤ w2.heap.size := hb.size
  have n2_0 : w.heap.size < w2.heap.size := by omega
  have n2_1 : w.heap.size + 1 < w2.heap.size := by omega
  replace x0_0 := cell_below hb x0_0 (by omega)
  replace x0_1 := cell_below hb x0_1 (by omega)
  replace x1_0 := cell_below hb x1_0 (by omega)
  replace x1_1 := cell_below hb x1_1 (by omega)
  replace f1_0 := fro_below hb f1_0 (by omega)
  replace f1_1 := fro_below hb f1_1 (by omega)
  have HB2 := Lib.hid (HB1.out.trans (hb.mono (by omega)))
  clear hb
  go_wp2_with fail
  refine (skept.impl_no p1 RM q1 p3 zs q3 _ HOS.out.grid.reads HOS.out.ints.reads HML.out.2 hk HML.out.1 HSB).mono ?_
  rintro e w3 ⟨rfl, hb⟩
  have s3 : w2.heap.size ≤ w3.heap.size := hb.size
  have n3_0 : w.heap.size < w3.heap.size := by omega
  have n3_1 : w.heap.size + 1 < w3.heap.size := by omega
  replace x0_0 := cell_below hb x0_0 (by omega)
  replace x0_1 := cell_below hb x0_1 (by omega)
  replace x1_0 := cell_below hb x1_0 (by omega)
  replace x1_1 := cell_below hb x1_1 (by omega)
  replace f1_0 := fro_below hb f1_0 (by omega)
  replace f1_1 := fro_below hb f1_1 (by omega)
  have HB3 := Lib.hid (HB2.out.trans (hb.mono (by omega)))
  clear hb
  go_wp2_with fail
  refine bodyPost_ret (v := .tuple #[.agg #[.slice none 0 0, .slice none 0 0], .bool false]) (by simp [results, Try.results26, go_sem, x1_0, x1_1]) rfl ⟨_, _, rfl, OwnS.of (OwnG.nil w.heap.size 0 _) (OwnI.nil w.heap.size 0 _) (.inl (Nat.zero_le _)) (Nat.le_refl _) (Nat.le_refl _) (Nat.zero_le _) (Nat.zero_le _), ?_⟩
  exact ((HB3.out.setCell (by simp) _).setCell (by simp) _)
set_option maxRecDepth 100000 in
set_option maxHeartbeats 4000000 in
theorem impl_full (a : Option Addr) (rows : List (List Int)) (c : Nat) (a' : Option Addr) (zs : List Int) (c' : Nat) (w : World) (hr : grid.Reads w a rows) (hz : ints.Reads .i64 w a' zs) (hn : rows.length ≤ 1048576) (hk : zs.length ≤ 1048576) (hm : ∀ r ∈ rows, r.length ≤ 1048576) (h1 : Hid (sampleB rows zs = true)) (h0 : 0 < rows.length) (hl : (rows.getD 0 []).length ≠ 4) :
    Calls Try.prog 26 #[.agg #[.slice a rows.length c, .slice a' zs.length c']] w (RetSB (rows.map lf) zs true w) := by
  have HMM := Lib.hid hm
  clear hm
  have HF := Lib.hid (show ∀ k, k < rows.length → (1 ≤ (rows.getD k []).length ∧ (rows.getD k []).length ≤ 4) from fun k hk => ⟨((pointB_iff _).1 (row_ok h1.out k hk).1).1, ((pointB_iff _).1 (row_ok h1.out k hk).1).2.1⟩)
  have HML := Lib.hid (show (∀ r ∈ rows.map lf, r.length ≤ 1048576) ∧ (rows.map lf).length ≤ 1048576 from ⟨map_len (fun k hk => by rw [lf_length]; have := (HF.out k hk).2; omega), by rw [List.length_map]; omega⟩)
  have g0 : ((rows.length : Int) == 0) = false := by rw [beq_eq_false_iff_ne]; omega
  have HSB := Lib.hid (show sampleB (rows.map lf) zs = true from lf_sample h1.out h0 hl)
  clear hl h0
  have Hhr := Lib.hid hr
  have Hhz := Lib.hid hz
  clear hr hz
  go_enter Try.func26, Try.ntmps26
  go_wp2_with fail
  have x0_0 : (w.alloc (.cells #[.slice a rows.length c, .slice a' zs.length c'] 27)).cell? ⟨w.heap.size, 0, none⟩ = some (.slice a rows.length c) := cell_new _ _ _ (by simp) rfl
  have x0_1 : (w.alloc (.cells #[.slice a rows.length c, .slice a' zs.length c'] 27)).cell? ⟨w.heap.size, 1, none⟩ = some (.slice a' zs.length c') := cell_new _ _ _ (by simp) rfl
  have HB0 := Lib.hid (below_alloc w (.cells #[.slice a rows.length c, .slice a' zs.length c'] 27))
  replace x0_0 := cell_old (.cells #[.slice none 0 0, .slice none 0 0] 27) x0_0
  replace x0_1 := cell_old (.cells #[.slice none 0 0, .slice none 0 0] 27) x0_1
  have x1_0 : ((w.alloc (.cells #[.slice a rows.length c, .slice a' zs.length c'] 27)).alloc (.cells #[.slice none 0 0, .slice none 0 0] 27)).cell? ⟨w.heap.size + 1, 0, none⟩ = some (.slice none 0 0) := cell_new _ _ _ (by simp) rfl
  have x1_1 : ((w.alloc (.cells #[.slice a rows.length c, .slice a' zs.length c'] 27)).alloc (.cells #[.slice none 0 0, .slice none 0 0] 27)).cell? ⟨w.heap.size + 1, 1, none⟩ = some (.slice none 0 0) := cell_new _ _ _ (by simp) rfl
  have f1_0 : ((w.alloc (.cells #[.slice a rows.length c, .slice a' zs.length c'] 27)).alloc (.cells #[.slice none 0 0, .slice none 0 0] 27)).frozen? ⟨w.heap.size + 1, 0, none⟩ = false := fro_new _ _ _ (by simp)
  have f1_1 : ((w.alloc (.cells #[.slice a rows.length c, .slice a' zs.length c'] 27)).alloc (.cells #[.slice none 0 0, .slice none 0 0] 27)).frozen? ⟨w.heap.size + 1, 1, none⟩ = false := fro_new _ _ _ (by simp)
  replace HB0 := Lib.hid (HB0.out.alloc (by simp) (.cells #[.slice none 0 0, .slice none 0 0] 27))
  have s0 : w.heap.size + 2 ≤ ((w.alloc (.cells #[.slice a rows.length c, .slice a' zs.length c'] 27)).alloc (.cells #[.slice none 0 0, .slice none 0 0] 27)).heap.size := by simp
  generalize hw : ((w.alloc (.cells #[.slice a rows.length c, .slice a' zs.length c'] 27)).alloc (.cells #[.slice none 0 0, .slice none 0 0] 27)) = w0 at *
  clear hw
  have n0_0 : w.heap.size < w0.heap.size := by omega
  have n0_1 : w.heap.size + 1 < w0.heap.size := by omega
  refine (impl_sample a rows c a' zs c' _ (Hhr.out.below HB0.out) (Hhz.out.below HB0.out) hn hk HMM.out true h1).mono ?_
  rintro e w1 ⟨rfl, hb⟩
  have s1 : w0.heap.size ≤ w1.heap.size := hb.size
  have n1_0 : w.heap.size < w1.heap.size := by omega
  have n1_1 : w.heap.size + 1 < w1.heap.size := by omega
  replace x0_0 := cell_below hb x0_0 (by omega)
  replace x0_1 := cell_below hb x0_1 (by omega)
  replace x1_0 := cell_below hb x1_0 (by omega)
  replace x1_1 := cell_below hb x1_1 (by omega)
  replace f1_0 := fro_below hb f1_0 (by omega)
  replace f1_1 := fro_below hb f1_1 (by omega)
  have HB1 := Lib.hid (HB0.out.trans (hb.mono (by omega)))
  clear hb
  go_wp2_with fail
  have HCh := Lib.hid (show ∀ (k : Nat) (W : World) (p9 : Option Addr) (q9 : Nat), k < rows.length → Below w1.heap.size w1 W → ints.Reads .i64 W p9 (rows.getD k []) → Calls Try.prog 82 #[.slice p9 (rows.getD k []).length q9] W (intfns.Made (lf (rows.getD k [])) W) from fun k W p9 q9 hk9 hB9 hrd => impl_lf p9 _ q9 W hrd (by have := HF.out k hk9; omega) (by have := HF.out k hk9; omega))
  refine (changed.impl_lift lf a rows c a' zs c' _ (Hhr.out.below HB1.out) (Hhz.out.below HB1.out) hn hk HCh).mono ?_
  rintro e w2 ⟨pv, lv, rfl, ho, hb⟩
  generalize rows.map lf = RM at *
  obtain ⟨p1, q1, rfl, _, _, _⟩ := ho.grid.slice
  obtain ⟨p3, q3, rfl, _, _, _⟩ := ho.ints.slice
  have HOS := Lib.hid ho
  clear ho HCh
  have s2 : w1.heap.size ≤ w2.heap.size := hb.size
  have n2_0 : w.heap.size < w2.heap.size := by omega
  have n2_1 : w.heap.size + 1 < w2.heap.size := by omega
  replace x0_0 := cell_below hb x0_0 (by omega)
  replace x0_1 := cell_below hb x0_1 (by omega)
  replace x1_0 := cell_below hb x1_0 (by omega)
  replace x1_1 := cell_below hb x1_1 (by omega)
  replace f1_0 := fro_below hb f1_0 (by omega)
  replace f1_1 := fro_below hb f1_1 (by omega)
  have HB2 := Lib.hid (HB1.out.trans (hb.mono (by omega)))
  clear hb
  go_wp2_with fail
  refine (skept.impl_yes p1 RM q1 p3 zs q3 _ HOS.out.grid.reads HOS.out.ints.reads HML.out.2 hk HML.out.1 HSB).mono ?_
  rintro e w3 ⟨rfl, hb⟩
  have HBS := Lib.hid hb
  have s3 : w2.heap.size ≤ w3.heap.size := hb.size
  have n3_0 : w.heap.size < w3.heap.size := by omega
  have n3_1 : w.heap.size + 1 < w3.heap.size := by omega
  replace x0_0 := cell_below hb x0_0 (by omega)
  replace x0_1 := cell_below hb x0_1 (by omega)
  replace x1_0 := cell_below hb x1_0 (by omega)
  replace x1_1 := cell_below hb x1_1 (by omega)
  replace f1_0 := fro_below hb f1_0 (by omega)
  replace f1_1 := fro_below hb f1_1 (by omega)
  have HB3 := Lib.hid (HB2.out.trans (hb.mono (by omega)))
  clear hb
  go_wp2_with fail
  refine bodyPost_ret (v := .tuple #[.agg #[.slice p1 RM.length q1, .slice p3 zs.length q3], .bool true]) (by simp [results, Try.results26, go_sem, x1_0, x1_1]) rfl ⟨_, _, rfl, ?_, ?_⟩
  · have HOT := HOS.out.below HBS.out
    simp only [size_set]; exact ((HOT.set (by simp; omega) _).set (by simp; omega) _).mono (by omega) (by omega)
  · exact ((HB3.out.setCell (by simp) _).setCell (by simp) _)
theorem spec_no (a : Option Addr) (rows : List (List Int)) (c : Nat) (a' : Option Addr) (zs : List Int) (c' : Nat) (w : World) (hr : grid.Reads w a rows) (hz : ints.Reads .i64 w a' zs) (hn : rows.length ≤ 1048576) (hk : zs.length ≤ 1048576) (hm : ∀ r ∈ rows, r.length ≤ 1048576) (h : lfB rows zs = false) :
    Calls Try.prog 25 #[.agg #[.slice a rows.length c, .slice a' zs.length c']] w (RetSB [] [] false w) := by
  cases h1 : sampleB rows zs
  · exact spec_no1 a rows c a' zs c' w hr hz hn hk hm (Lib.hid h1)
  · by_cases h0 : rows.length = 0
    · exact spec_no2 a rows c a' zs c' w hr hz hn hk hm (Lib.hid h1) h0
    · by_cases hl : (rows.getD 0 []).length = 4
      · exact spec_no3 a rows c a' zs c' w hr hz hn hk hm (Lib.hid h1) (by omega) hl
      · have := (lfB_iff _ _).2 ⟨h1, by omega, hl⟩
        rw [this] at h
        cases h
theorem spec_yes (a : Option Addr) (rows : List (List Int)) (c : Nat) (a' : Option Addr) (zs : List Int) (c' : Nat) (w : World) (hr : grid.Reads w a rows) (hz : ints.Reads .i64 w a' zs) (hn : rows.length ≤ 1048576) (hk : zs.length ≤ 1048576) (hm : ∀ r ∈ rows, r.length ≤ 1048576) (h : lfB rows zs = true) :
    Calls Try.prog 25 #[.agg #[.slice a rows.length c, .slice a' zs.length c']] w (RetSB (rows.map lf) zs true w) := by
  obtain ⟨h1, h0, hl⟩ := (lfB_iff _ _).1 h
  exact spec_full a rows c a' zs c' w hr hz hn hk hm (Lib.hid h1) h0 hl
theorem impl_no (a : Option Addr) (rows : List (List Int)) (c : Nat) (a' : Option Addr) (zs : List Int) (c' : Nat) (w : World) (hr : grid.Reads w a rows) (hz : ints.Reads .i64 w a' zs) (hn : rows.length ≤ 1048576) (hk : zs.length ≤ 1048576) (hm : ∀ r ∈ rows, r.length ≤ 1048576) (h : lfB rows zs = false) :
    Calls Try.prog 26 #[.agg #[.slice a rows.length c, .slice a' zs.length c']] w (RetSB [] [] false w) := by
  cases h1 : sampleB rows zs
  · exact impl_no1 a rows c a' zs c' w hr hz hn hk hm (Lib.hid h1)
  · by_cases h0 : rows.length = 0
    · exact impl_no2 a rows c a' zs c' w hr hz hn hk hm (Lib.hid h1) h0
    · by_cases hl : (rows.getD 0 []).length = 4
      · exact impl_out a rows c a' zs c' w hr hz hn hk hm (Lib.hid h1) (by omega) hl
      · have := (lfB_iff _ _).2 ⟨h1, by omega, hl⟩
        rw [this] at h
        cases h
theorem impl_yes (a : Option Addr) (rows : List (List Int)) (c : Nat) (a' : Option Addr) (zs : List Int) (c' : Nat) (w : World) (hr : grid.Reads w a rows) (hz : ints.Reads .i64 w a' zs) (hn : rows.length ≤ 1048576) (hk : zs.length ≤ 1048576) (hm : ∀ r ∈ rows, r.length ≤ 1048576) (h : lfB rows zs = true) :
    Calls Try.prog 26 #[.agg #[.slice a rows.length c, .slice a' zs.length c']] w (RetSB (rows.map lf) zs true w) := by
  obtain ⟨h1, h0, hl⟩ := (lfB_iff _ _).1 h
  exact impl_full a rows c a' zs c' w hr hz hn hk hm (Lib.hid h1) h0 hl
theorem lf_ok {rows : List (List Int)} {zs : List Int} (h : lfB rows zs = true) : sampleB (rows.map lf) zs = true := by
  obtain ⟨h1, h0, hl⟩ := (lfB_iff _ _).1 h
  exact lf_sample h1 h0 hl
end Go.Proofs.Ytocbklmkphgkeaa.lifts
