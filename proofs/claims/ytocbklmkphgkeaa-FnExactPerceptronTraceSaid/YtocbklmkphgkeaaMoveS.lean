/- The walks of the model's and the program's MoveSample. -/
import Derived.Test.YtocbklmkphgkeaaAdded
import Derived.Test.YtocbklmkphgkeaaSKept
import Derived.Test.YtocbklmkphgkeaaOutBox
import Derived.Test.YtocbklmkphgkeaaPart
import Derived.Test.YtocbklmkphgkeaaMargin
namespace Go.Proofs.Ytocbklmkphgkeaa.moves
open Go.RowKit own own1 pp nums samplesv samplest samplefns rowscopy part added2
set_option linter.unusedVariables false
set_option linter.unusedSimpArgs false
attribute [local go_sem ↓] Go.wp_at_zero Go.wp_at_succ

def pickM (f : List Int → List Int) (rows : List (List Int)) (k : Nat) : List (List Int) := (rows.take k).map f
theorem pick_length (f : List Int → List Int) (rows : List (List Int)) (k : Nat) (h : k ≤ rows.length) : (pickM f rows k).length = k := by simp [pickM]; omega
theorem pick_succ (f : List Int → List Int) (rows : List (List Int)) (k : Nat) (h : k < rows.length) : pickM f rows (k + 1) = pickM f rows k ++ [f (rows.getD k [])] := by
  unfold pickM
  rw [List.take_add_one, List.getElem?_eq_getElem h, List.map_append, List.getD_eq_getElem?_getD, List.getElem?_eq_getElem h]
  simp
theorem pick_all (f : List Int → List Int) (rows : List (List Int)) : pickM f rows rows.length = rows.map f := by simp [pickM]
/-- A point moved. -/
def mv (ys r : List Int) : List Int := plus r ys r.length
def mvA (rows : List (List Int)) (zs ys : List Int) : Bool := (margin.hpB rows zs && decide (ys.length = (rows.getD 0 []).length)) && pointB ys
def mvB (rows : List (List Int)) (zs ys : List Int) : Bool := mvA rows zs ys && sampleB (rows.map (mv ys)) zs
theorem mvA_iff (rows : List (List Int)) (zs ys : List Int) : mvA rows zs ys = true ↔ sampleB rows zs = true ∧ 0 < rows.length ∧ ys.length = (rows.getD 0 []).length ∧ pointB ys = true := by simp [mvA, margin.hpB_iff, and_assoc]
theorem row_ok {rows : List (List Int)} {zs : List Int} (h : sampleB rows zs = true) (k : Nat) (hk : k < rows.length) : pointB (rows.getD k []) = true ∧ (rows.getD k []).length = (rows.getD 0 []).length := by
  have hr := all_at _ [] rows ((sampleB_iff _ _).1 h).2.2.2 k hk
  simpa using hr
theorem map_len {f : List Int → List Int} {rows : List (List Int)} {B : Nat} (h : ∀ k, k < rows.length → (f (rows.getD k [])).length ≤ B) : ∀ r ∈ rows.map f, r.length ≤ B := by
  intro r hr
  obtain ⟨x, hx, rfl⟩ := List.mem_map.1 hr
  obtain ⟨k, hk, rfl⟩ := mem_getD rows [] x hx
  exact h k hk
set_option maxRecDepth 100000 in
set_option maxHeartbeats 4000000 in
theorem spec_no1 (a : Option Addr) (rows : List (List Int)) (c : Nat) (a' : Option Addr) (zs : List Int) (c' : Nat) (p : Option Addr) (ys : List Int) (q : Nat) (w : World) (hr : grid.Reads w a rows) (hz : ints.Reads .i64 w a' zs) (hq : ints.Reads .i64 w p ys) (hn : rows.length ≤ 1048576) (hk : zs.length ≤ 1048576) (hm : ∀ r ∈ rows, r.length ≤ 1048576) (hw : ys.length ≤ 1048576) (h : Hid (sampleB rows zs = false)) :
    Calls Try.prog 16 #[.agg #[.slice a rows.length c, .slice a' zs.length c'], .slice p ys.length q] w (RetSB [] [] false w) := by
  have HMM := Lib.hid hm
  clear hm
  have Hhr := Lib.hid hr
  have Hhz := Lib.hid hz
  have Hhq := Lib.hid hq
  clear hr hz hq
  go_enter Try.func16, Try.ntmps16
  go_wp2_with fail
  have x0_0 : (w.alloc (.cells #[.slice a rows.length c, .slice a' zs.length c'] 27)).cell? ⟨w.heap.size, 0, none⟩ = some (.slice a rows.length c) := cell_new _ _ _ (by simp) rfl
  have x0_1 : (w.alloc (.cells #[.slice a rows.length c, .slice a' zs.length c'] 27)).cell? ⟨w.heap.size, 1, none⟩ = some (.slice a' zs.length c') := cell_new _ _ _ (by simp) rfl
  have HB0 := Lib.hid (below_alloc w (.cells #[.slice a rows.length c, .slice a' zs.length c'] 27))
  replace x0_0 := cell_old (.cells #[.slice none 0 0, .slice none 0 0] 27) x0_0
  replace x0_1 := cell_old (.cells #[.slice none 0 0, .slice none 0 0] 27) x0_1
  have x1_0 : ((w.alloc (.cells #[.slice a rows.length c, .slice a' zs.length c'] 27)).alloc (.cells #[.slice none 0 0, .slice none 0 0] 27)).cell? ⟨w.heap.size + 1, 0, none⟩ = some (.slice none 0 0) := cell_new _ _ _ (by simp) rfl
  have x1_1 : ((w.alloc (.cells #[.slice a rows.length c, .slice a' zs.length c'] 27)).alloc (.cells #[.slice none 0 0, .slice none 0 0] 27)).cell? ⟨w.heap.size + 1, 1, none⟩ = some (.slice none 0 0) := cell_new _ _ _ (by simp) rfl
  have f1_0 : ((w.alloc (.cells #[.slice a rows.length c, .slice a' zs.length c'] 27)).alloc (.cells #[.slice none 0 0, .slice none 0 0] 27)).frozen? ⟨w.heap.size + 1, 0, none⟩ = false := fro_new _ _ _ (by simp)
  have f1_1 : ((w.alloc (.cells #[.slice a rows.length c, .slice a' zs.length c'] 27)).alloc (.cells #[.slice none 0 0, .slice none 0 0] 27)).frozen? ⟨w.heap.size + 1, 1, none⟩ = false := fro_new _ _ _ (by simp)
  replace HB0 := Lib.hid (HB0.out.alloc (by simp) (.cells #[.slice none 0 0, .slice none 0 0] 27))
  have s0 : w.heap.size + 2 ≤ ((w.alloc (.cells #[.slice a rows.length c, .slice a' zs.length c'] 27)).alloc (.cells #[.slice none 0 0, .slice none 0 0] 27)).heap.size := by simp
  generalize hw : ((w.alloc (.cells #[.slice a rows.length c, .slice a' zs.length c'] 27)).alloc (.cells #[.slice none 0 0, .slice none 0 0] 27)) = w0 at *
  clear hw
  have n0_0 : w.heap.size < w0.heap.size := by omega
  have n0_1 : w.heap.size + 1 < w0.heap.size := by omega
  refine (spec_sample a rows c a' zs c' _ (Hhr.out.below HB0.out) (Hhz.out.below HB0.out) hn hk HMM.out false h).mono ?_
  rintro e w1 ⟨rfl, hb⟩
  have s1 : w0.heap.size ≤ w1.heap.size := hb.size
  have n1_0 : w.heap.size < w1.heap.size := by omega
  have n1_1 : w.heap.size + 1 < w1.heap.size := by omega
  replace x0_0 := cell_below hb x0_0 (by omega)
  replace x0_1 := cell_below hb x0_1 (by omega)
  replace x1_0 := cell_below hb x1_0 (by omega)
  replace x1_1 := cell_below hb x1_1 (by omega)
  replace f1_0 := fro_below hb f1_0 (by omega)
  replace f1_1 := fro_below hb f1_1 (by omega)
  have HB1 := Lib.hid (HB0.out.trans (hb.mono (by omega)))
  clear hb
  go_wp2_with fail
  refine bodyPost_ret (v := .tuple #[.agg #[.slice none 0 0, .slice none 0 0], .bool false]) (by simp [results, Try.results16, go_sem, x1_0, x1_1]) rfl ⟨_, _, rfl, OwnS.of (OwnG.nil w.heap.size 0 _) (OwnI.nil w.heap.size 0 _) (.inl (Nat.zero_le _)) (Nat.le_refl _) (Nat.le_refl _) (Nat.zero_le _) (Nat.zero_le _), ?_⟩
  exact ((HB1.out.setCell (by simp) _).setCell (by simp) _)
set_option maxRecDepth 100000 in
set_option maxHeartbeats 4000000 in
theorem spec_no2 (a : Option Addr) (rows : List (List Int)) (c : Nat) (a' : Option Addr) (zs : List Int) (c' : Nat) (p : Option Addr) (ys : List Int) (q : Nat) (w : World) (hr : grid.Reads w a rows) (hz : ints.Reads .i64 w a' zs) (hq : ints.Reads .i64 w p ys) (hn : rows.length ≤ 1048576) (hk : zs.length ≤ 1048576) (hm : ∀ r ∈ rows, r.length ≤ 1048576) (hw : ys.length ≤ 1048576) (h1 : Hid (sampleB rows zs = true)) (h : rows.length = 0) :
    Calls Try.prog 16 #[.agg #[.slice a rows.length c, .slice a' zs.length c'], .slice p ys.length q] w (RetSB [] [] false w) := by
  have HMM := Lib.hid hm
  clear hm
  have g0 : ((rows.length : Int) == 0) = true := by rw [beq_iff_eq]; omega
  have H0 := Lib.hid h
  clear h
  have Hhr := Lib.hid hr
  have Hhz := Lib.hid hz
  have Hhq := Lib.hid hq
  clear hr hz hq
  go_enter Try.func16, Try.ntmps16
  go_wp2_with fail
  have x0_0 : (w.alloc (.cells #[.slice a rows.length c, .slice a' zs.length c'] 27)).cell? ⟨w.heap.size, 0, none⟩ = some (.slice a rows.length c) := cell_new _ _ _ (by simp) rfl
  have x0_1 : (w.alloc (.cells #[.slice a rows.length c, .slice a' zs.length c'] 27)).cell? ⟨w.heap.size, 1, none⟩ = some (.slice a' zs.length c') := cell_new _ _ _ (by simp) rfl
  have HB0 := Lib.hid (below_alloc w (.cells #[.slice a rows.length c, .slice a' zs.length c'] 27))
  replace x0_0 := cell_old (.cells #[.slice none 0 0, .slice none 0 0] 27) x0_0
  replace x0_1 := cell_old (.cells #[.slice none 0 0, .slice none 0 0] 27) x0_1
  have x1_0 : ((w.alloc (.cells #[.slice a rows.length c, .slice a' zs.length c'] 27)).alloc (.cells #[.slice none 0 0, .slice none 0 0] 27)).cell? ⟨w.heap.size + 1, 0, none⟩ = some (.slice none 0 0) := cell_new _ _ _ (by simp) rfl
  have x1_1 : ((w.alloc (.cells #[.slice a rows.length c, .slice a' zs.length c'] 27)).alloc (.cells #[.slice none 0 0, .slice none 0 0] 27)).cell? ⟨w.heap.size + 1, 1, none⟩ = some (.slice none 0 0) := cell_new _ _ _ (by simp) rfl
  have f1_0 : ((w.alloc (.cells #[.slice a rows.length c, .slice a' zs.length c'] 27)).alloc (.cells #[.slice none 0 0, .slice none 0 0] 27)).frozen? ⟨w.heap.size + 1, 0, none⟩ = false := fro_new _ _ _ (by simp)
  have f1_1 : ((w.alloc (.cells #[.slice a rows.length c, .slice a' zs.length c'] 27)).alloc (.cells #[.slice none 0 0, .slice none 0 0] 27)).frozen? ⟨w.heap.size + 1, 1, none⟩ = false := fro_new _ _ _ (by simp)
  replace HB0 := Lib.hid (HB0.out.alloc (by simp) (.cells #[.slice none 0 0, .slice none 0 0] 27))
  have s0 : w.heap.size + 2 ≤ ((w.alloc (.cells #[.slice a rows.length c, .slice a' zs.length c'] 27)).alloc (.cells #[.slice none 0 0, .slice none 0 0] 27)).heap.size := by simp
  generalize hw : ((w.alloc (.cells #[.slice a rows.length c, .slice a' zs.length c'] 27)).alloc (.cells #[.slice none 0 0, .slice none 0 0] 27)) = w0 at *
  clear hw
  have n0_0 : w.heap.size < w0.heap.size := by omega
  have n0_1 : w.heap.size + 1 < w0.heap.size := by omega
  refine (spec_sample a rows c a' zs c' _ (Hhr.out.below HB0.out) (Hhz.out.below HB0.out) hn hk HMM.out true h1).mono ?_
  rintro e w1 ⟨rfl, hb⟩
  have s1 : w0.heap.size ≤ w1.heap.size := hb.size
  have n1_0 : w.heap.size < w1.heap.size := by omega
  have n1_1 : w.heap.size + 1 < w1.heap.size := by omega
  replace x0_0 := cell_below hb x0_0 (by omega)
  replace x0_1 := cell_below hb x0_1 (by omega)
  replace x1_0 := cell_below hb x1_0 (by omega)
  replace x1_1 := cell_below hb x1_1 (by omega)
  replace f1_0 := fro_below hb f1_0 (by omega)
  replace f1_1 := fro_below hb f1_1 (by omega)
  have HB1 := Lib.hid (HB0.out.trans (hb.mono (by omega)))
  clear hb
  go_wp2_with fail
  refine bodyPost_ret (v := .tuple #[.agg #[.slice none 0 0, .slice none 0 0], .bool false]) (by simp [results, Try.results16, go_sem, x1_0, x1_1]) rfl ⟨_, _, rfl, OwnS.of (OwnG.nil w.heap.size 0 _) (OwnI.nil w.heap.size 0 _) (.inl (Nat.zero_le _)) (Nat.le_refl _) (Nat.le_refl _) (Nat.zero_le _) (Nat.zero_le _), ?_⟩
  exact ((HB1.out.setCell (by simp) _).setCell (by simp) _)
set_option maxRecDepth 100000 in
set_option maxHeartbeats 4000000 in
theorem spec_no3 (a : Option Addr) (rows : List (List Int)) (c : Nat) (a' : Option Addr) (zs : List Int) (c' : Nat) (p : Option Addr) (ys : List Int) (q : Nat) (w : World) (hr : grid.Reads w a rows) (hz : ints.Reads .i64 w a' zs) (hq : ints.Reads .i64 w p ys) (hn : rows.length ≤ 1048576) (hk : zs.length ≤ 1048576) (hm : ∀ r ∈ rows, r.length ≤ 1048576) (hw : ys.length ≤ 1048576) (h1 : Hid (sampleB rows zs = true)) (h0 : 0 < rows.length) (hl : ys.length ≠ (rows.getD 0 []).length) :
    Calls Try.prog 16 #[.agg #[.slice a rows.length c, .slice a' zs.length c'], .slice p ys.length q] w (RetSB [] [] false w) := by
  have HMM := Lib.hid hm
  clear hm
  obtain ⟨bl, off, rp0, rq0, hab, hbl, hc, hpq, hrow⟩ := hr.at h0
  have HR0 := Lib.hid hc
  subst hab
  clear hpq hrow hc
  have g0 : ((rows.length : Int) == 0) = false := by rw [beq_eq_false_iff_ne]; omega
  have g1 : ((ys.length : Int) != ((rows.getD 0 []).length : Int)) = true := by rw [bne_iff_ne]; omega
  clear hl
  generalize rows.getD 0 [] = r0 at *
  have Hhr := Lib.hid hr
  have Hhz := Lib.hid hz
  have Hhq := Lib.hid hq
  clear hr hz hq
  go_enter Try.func16, Try.ntmps16
  go_wp2_with fail
  have x0_0 : (w.alloc (.cells #[.slice (some ⟨bl, off, none⟩) rows.length c, .slice a' zs.length c'] 27)).cell? ⟨w.heap.size, 0, none⟩ = some (.slice (some ⟨bl, off, none⟩) rows.length c) := cell_new _ _ _ (by simp) rfl
  have x0_1 : (w.alloc (.cells #[.slice (some ⟨bl, off, none⟩) rows.length c, .slice a' zs.length c'] 27)).cell? ⟨w.heap.size, 1, none⟩ = some (.slice a' zs.length c') := cell_new _ _ _ (by simp) rfl
  have HB0 := Lib.hid (below_alloc w (.cells #[.slice (some ⟨bl, off, none⟩) rows.length c, .slice a' zs.length c'] 27))
  replace x0_0 := cell_old (.cells #[.slice none 0 0, .slice none 0 0] 27) x0_0
  replace x0_1 := cell_old (.cells #[.slice none 0 0, .slice none 0 0] 27) x0_1
  have x1_0 : ((w.alloc (.cells #[.slice (some ⟨bl, off, none⟩) rows.length c, .slice a' zs.length c'] 27)).alloc (.cells #[.slice none 0 0, .slice none 0 0] 27)).cell? ⟨w.heap.size + 1, 0, none⟩ = some (.slice none 0 0) := cell_new _ _ _ (by simp) rfl
  have x1_1 : ((w.alloc (.cells #[.slice (some ⟨bl, off, none⟩) rows.length c, .slice a' zs.length c'] 27)).alloc (.cells #[.slice none 0 0, .slice none 0 0] 27)).cell? ⟨w.heap.size + 1, 1, none⟩ = some (.slice none 0 0) := cell_new _ _ _ (by simp) rfl
  have f1_0 : ((w.alloc (.cells #[.slice (some ⟨bl, off, none⟩) rows.length c, .slice a' zs.length c'] 27)).alloc (.cells #[.slice none 0 0, .slice none 0 0] 27)).frozen? ⟨w.heap.size + 1, 0, none⟩ = false := fro_new _ _ _ (by simp)
  have f1_1 : ((w.alloc (.cells #[.slice (some ⟨bl, off, none⟩) rows.length c, .slice a' zs.length c'] 27)).alloc (.cells #[.slice none 0 0, .slice none 0 0] 27)).frozen? ⟨w.heap.size + 1, 1, none⟩ = false := fro_new _ _ _ (by simp)
  replace HB0 := Lib.hid (HB0.out.alloc (by simp) (.cells #[.slice none 0 0, .slice none 0 0] 27))
  have s0 : w.heap.size + 2 ≤ ((w.alloc (.cells #[.slice (some ⟨bl, off, none⟩) rows.length c, .slice a' zs.length c'] 27)).alloc (.cells #[.slice none 0 0, .slice none 0 0] 27)).heap.size := by simp
  generalize hw : ((w.alloc (.cells #[.slice (some ⟨bl, off, none⟩) rows.length c, .slice a' zs.length c'] 27)).alloc (.cells #[.slice none 0 0, .slice none 0 0] 27)) = w0 at *
  clear hw
  have n0_0 : w.heap.size < w0.heap.size := by omega
  have n0_1 : w.heap.size + 1 < w0.heap.size := by omega
  refine (spec_sample (some ⟨bl, off, none⟩) rows c a' zs c' _ (Hhr.out.below HB0.out) (Hhz.out.below HB0.out) hn hk HMM.out true h1).mono ?_
  rintro e w1 ⟨rfl, hb⟩
  have s1 : w0.heap.size ≤ w1.heap.size := hb.size
  have n1_0 : w.heap.size < w1.heap.size := by omega
  have n1_1 : w.heap.size + 1 < w1.heap.size := by omega
  replace x0_0 := cell_below hb x0_0 (by omega)
  replace x0_1 := cell_below hb x0_1 (by omega)
  replace x1_0 := cell_below hb x1_0 (by omega)
  replace x1_1 := cell_below hb x1_1 (by omega)
  replace f1_0 := fro_below hb f1_0 (by omega)
  replace f1_1 := fro_below hb f1_1 (by omega)
  have HB1 := Lib.hid (HB0.out.trans (hb.mono (by omega)))
  clear hb
  have hc0 := cell_below HB1.out HR0.out (by omega)
  rw [Nat.add_zero] at hc0
  go_wp2_with fail
  refine bodyPost_ret (v := .tuple #[.agg #[.slice none 0 0, .slice none 0 0], .bool false]) (by simp [results, Try.results16, go_sem, x1_0, x1_1]) rfl ⟨_, _, rfl, OwnS.of (OwnG.nil w.heap.size 0 _) (OwnI.nil w.heap.size 0 _) (.inl (Nat.zero_le _)) (Nat.le_refl _) (Nat.le_refl _) (Nat.zero_le _) (Nat.zero_le _), ?_⟩
  exact ((HB1.out.setCell (by simp) _).setCell (by simp) _)
set_option maxRecDepth 100000 in
set_option maxHeartbeats 4000000 in
theorem spec_no4 (a : Option Addr) (rows : List (List Int)) (c : Nat) (a' : Option Addr) (zs : List Int) (c' : Nat) (p : Option Addr) (ys : List Int) (q : Nat) (w : World) (hr : grid.Reads w a rows) (hz : ints.Reads .i64 w a' zs) (hq : ints.Reads .i64 w p ys) (hn : rows.length ≤ 1048576) (hk : zs.length ≤ 1048576) (hm : ∀ r ∈ rows, r.length ≤ 1048576) (hw : ys.length ≤ 1048576) (h1 : Hid (sampleB rows zs = true)) (h0 : 0 < rows.length) (hl : ys.length = (rows.getD 0 []).length) (h : Hid (pointB ys = false)) :
    Calls Try.prog 16 #[.agg #[.slice a rows.length c, .slice a' zs.length c'], .slice p ys.length q] w (RetSB [] [] false w) := by
  have HMM := Lib.hid hm
  clear hm
  obtain ⟨bl, off, rp0, rq0, hab, hbl, hc, hpq, hrow⟩ := hr.at h0
  have HR0 := Lib.hid hc
  subst hab
  clear hpq hrow hc
  have g0 : ((rows.length : Int) == 0) = false := by rw [beq_eq_false_iff_ne]; omega
  have g1 : ((ys.length : Int) != ((rows.getD 0 []).length : Int)) = false := by rw [bne_eq_false_iff_eq]; omega
  clear hl
  generalize rows.getD 0 [] = r0 at *
  have Hhr := Lib.hid hr
  have Hhz := Lib.hid hz
  have Hhq := Lib.hid hq
  clear hr hz hq
  go_enter Try.func16, Try.ntmps16
  go_wp2_with fail
  have x0_0 : (w.alloc (.cells #[.slice (some ⟨bl, off, none⟩) rows.length c, .slice a' zs.length c'] 27)).cell? ⟨w.heap.size, 0, none⟩ = some (.slice (some ⟨bl, off, none⟩) rows.length c) := cell_new _ _ _ (by simp) rfl
  have x0_1 : (w.alloc (.cells #[.slice (some ⟨bl, off, none⟩) rows.length c, .slice a' zs.length c'] 27)).cell? ⟨w.heap.size, 1, none⟩ = some (.slice a' zs.length c') := cell_new _ _ _ (by simp) rfl
  have HB0 := Lib.hid (below_alloc w (.cells #[.slice (some ⟨bl, off, none⟩) rows.length c, .slice a' zs.length c'] 27))
  replace x0_0 := cell_old (.cells #[.slice none 0 0, .slice none 0 0] 27) x0_0
  replace x0_1 := cell_old (.cells #[.slice none 0 0, .slice none 0 0] 27) x0_1
  have x1_0 : ((w.alloc (.cells #[.slice (some ⟨bl, off, none⟩) rows.length c, .slice a' zs.length c'] 27)).alloc (.cells #[.slice none 0 0, .slice none 0 0] 27)).cell? ⟨w.heap.size + 1, 0, none⟩ = some (.slice none 0 0) := cell_new _ _ _ (by simp) rfl
  have x1_1 : ((w.alloc (.cells #[.slice (some ⟨bl, off, none⟩) rows.length c, .slice a' zs.length c'] 27)).alloc (.cells #[.slice none 0 0, .slice none 0 0] 27)).cell? ⟨w.heap.size + 1, 1, none⟩ = some (.slice none 0 0) := cell_new _ _ _ (by simp) rfl
  have f1_0 : ((w.alloc (.cells #[.slice (some ⟨bl, off, none⟩) rows.length c, .slice a' zs.length c'] 27)).alloc (.cells #[.slice none 0 0, .slice none 0 0] 27)).frozen? ⟨w.heap.size + 1, 0, none⟩ = false := fro_new _ _ _ (by simp)
  have f1_1 : ((w.alloc (.cells #[.slice (some ⟨bl, off, none⟩) rows.length c, .slice a' zs.length c'] 27)).alloc (.cells #[.slice none 0 0, .slice none 0 0] 27)).frozen? ⟨w.heap.size + 1, 1, none⟩ = false := fro_new _ _ _ (by simp)
  replace HB0 := Lib.hid (HB0.out.alloc (by simp) (.cells #[.slice none 0 0, .slice none 0 0] 27))
  have s0 : w.heap.size + 2 ≤ ((w.alloc (.cells #[.slice (some ⟨bl, off, none⟩) rows.length c, .slice a' zs.length c'] 27)).alloc (.cells #[.slice none 0 0, .slice none 0 0] 27)).heap.size := by simp
  generalize hw : ((w.alloc (.cells #[.slice (some ⟨bl, off, none⟩) rows.length c, .slice a' zs.length c'] 27)).alloc (.cells #[.slice none 0 0, .slice none 0 0] 27)) = w0 at *
  clear hw
  have n0_0 : w.heap.size < w0.heap.size := by omega
  have n0_1 : w.heap.size + 1 < w0.heap.size := by omega
  refine (spec_sample (some ⟨bl, off, none⟩) rows c a' zs c' _ (Hhr.out.below HB0.out) (Hhz.out.below HB0.out) hn hk HMM.out true h1).mono ?_
  rintro e w1 ⟨rfl, hb⟩
  have s1 : w0.heap.size ≤ w1.heap.size := hb.size
  have n1_0 : w.heap.size < w1.heap.size := by omega
  have n1_1 : w.heap.size + 1 < w1.heap.size := by omega
  replace x0_0 := cell_below hb x0_0 (by omega)
  replace x0_1 := cell_below hb x0_1 (by omega)
  replace x1_0 := cell_below hb x1_0 (by omega)
  replace x1_1 := cell_below hb x1_1 (by omega)
  replace f1_0 := fro_below hb f1_0 (by omega)
  replace f1_1 := fro_below hb f1_1 (by omega)
  have HB1 := Lib.hid (HB0.out.trans (hb.mono (by omega)))
  clear hb
  have hc0 := cell_below HB1.out HR0.out (by omega)
  rw [Nat.add_zero] at hc0
  go_wp2_with fail
  refine (spec_point p ys q _ (Hhq.out.below HB1.out) hw false h).mono ?_
  rintro e w' ⟨rfl, rfl⟩
  go_wp2_with fail
  refine bodyPost_ret (v := .tuple #[.agg #[.slice none 0 0, .slice none 0 0], .bool false]) (by simp [results, Try.results16, go_sem, x1_0, x1_1]) rfl ⟨_, _, rfl, OwnS.of (OwnG.nil w.heap.size 0 _) (OwnI.nil w.heap.size 0 _) (.inl (Nat.zero_le _)) (Nat.le_refl _) (Nat.le_refl _) (Nat.zero_le _) (Nat.zero_le _), ?_⟩
  exact ((HB1.out.setCell (by simp) _).setCell (by simp) _)
set_option maxRecDepth 100000 in
set_option maxHeartbeats 4000000 in
theorem spec_out (a : Option Addr) (rows : List (List Int)) (c : Nat) (a' : Option Addr) (zs : List Int) (c' : Nat) (p : Option Addr) (ys : List Int) (q : Nat) (w : World) (hr : grid.Reads w a rows) (hz : ints.Reads .i64 w a' zs) (hq : ints.Reads .i64 w p ys) (hn : rows.length ≤ 1048576) (hk : zs.length ≤ 1048576) (hm : ∀ r ∈ rows, r.length ≤ 1048576) (hw : ys.length ≤ 1048576) (hA : mvA rows zs ys = true) (h : Hid (sampleB (rows.map (mv ys)) zs = false)) :
    Calls Try.prog 16 #[.agg #[.slice a rows.length c, .slice a' zs.length c'], .slice p ys.length q] w (RetSB [] [] false w) := by
  have HMM := Lib.hid hm
  clear hm
  obtain ⟨i0, hi, hz0, hz1, hz2⟩ := info_parts infoInts
  obtain ⟨iI, hi', hz0', hz1', hz2'⟩ := info_parts own1.infoInt
  obtain ⟨h1', h0, hl, h2'⟩ := (mvA_iff _ _ _).1 hA
  have h1 := Lib.hid h1'
  have h2 := Lib.hid h2'
  have hzl := ((sampleB_iff _ _).1 h1').2.1
  have s16 := ((sampleB_iff _ _).1 h1').1
  have HY9 := Lib.hid ((pointB_iff _).1 h2').2.2
  have HF := Lib.hid (show ∀ k, k < rows.length → ys.length = (rows.getD k []).length ∧ (1 ≤ (rows.getD k []).length ∧ (rows.getD k []).length ≤ 4) ∧ numsB 9 (rows.getD k []) = true from fun k hk => ⟨by rw [(row_ok h1' k hk).2]; exact hl, ⟨((pointB_iff _).1 (row_ok h1' k hk).1).1, ((pointB_iff _).1 (row_ok h1' k hk).1).2.1⟩, ((pointB_iff _).1 (row_ok h1' k hk).1).2.2⟩)
  obtain ⟨bl, off, rp0, rq0, hab, hbl, hc, hpq, hrow⟩ := hr.at h0
  have HR0 := Lib.hid hc
  subst hab
  clear hpq hrow hc
  have g0 : ((rows.length : Int) == 0) = false := by rw [beq_eq_false_iff_ne]; omega
  have g1 : ((ys.length : Int) != ((rows.getD 0 []).length : Int)) = false := by rw [bne_eq_false_iff_eq]; omega
  have h0z : 0 < zs.length := by omega
  clear h1' h2' hl hA hzl
  generalize rows.getD 0 [] = r0 at *
  have Hhr := Lib.hid hr
  have Hhz := Lib.hid hz
  have Hhq := Lib.hid hq
  clear hr hz hq
  go_enter Try.func16, Try.ntmps16
  go_wp2_with fail
  have x0_0 : (w.alloc (.cells #[.slice (some ⟨bl, off, none⟩) rows.length c, .slice a' zs.length c'] 27)).cell? ⟨w.heap.size, 0, none⟩ = some (.slice (some ⟨bl, off, none⟩) rows.length c) := cell_new _ _ _ (by simp) rfl
  have x0_1 : (w.alloc (.cells #[.slice (some ⟨bl, off, none⟩) rows.length c, .slice a' zs.length c'] 27)).cell? ⟨w.heap.size, 1, none⟩ = some (.slice a' zs.length c') := cell_new _ _ _ (by simp) rfl
  have HB0 := Lib.hid (below_alloc w (.cells #[.slice (some ⟨bl, off, none⟩) rows.length c, .slice a' zs.length c'] 27))
  replace x0_0 := cell_old (.cells #[.slice none 0 0, .slice none 0 0] 27) x0_0
  replace x0_1 := cell_old (.cells #[.slice none 0 0, .slice none 0 0] 27) x0_1
  have x1_0 : ((w.alloc (.cells #[.slice (some ⟨bl, off, none⟩) rows.length c, .slice a' zs.length c'] 27)).alloc (.cells #[.slice none 0 0, .slice none 0 0] 27)).cell? ⟨w.heap.size + 1, 0, none⟩ = some (.slice none 0 0) := cell_new _ _ _ (by simp) rfl
  have x1_1 : ((w.alloc (.cells #[.slice (some ⟨bl, off, none⟩) rows.length c, .slice a' zs.length c'] 27)).alloc (.cells #[.slice none 0 0, .slice none 0 0] 27)).cell? ⟨w.heap.size + 1, 1, none⟩ = some (.slice none 0 0) := cell_new _ _ _ (by simp) rfl
  have f1_0 : ((w.alloc (.cells #[.slice (some ⟨bl, off, none⟩) rows.length c, .slice a' zs.length c'] 27)).alloc (.cells #[.slice none 0 0, .slice none 0 0] 27)).frozen? ⟨w.heap.size + 1, 0, none⟩ = false := fro_new _ _ _ (by simp)
  have f1_1 : ((w.alloc (.cells #[.slice (some ⟨bl, off, none⟩) rows.length c, .slice a' zs.length c'] 27)).alloc (.cells #[.slice none 0 0, .slice none 0 0] 27)).frozen? ⟨w.heap.size + 1, 1, none⟩ = false := fro_new _ _ _ (by simp)
  replace HB0 := Lib.hid (HB0.out.alloc (by simp) (.cells #[.slice none 0 0, .slice none 0 0] 27))
  have s0 : w.heap.size + 2 ≤ ((w.alloc (.cells #[.slice (some ⟨bl, off, none⟩) rows.length c, .slice a' zs.length c'] 27)).alloc (.cells #[.slice none 0 0, .slice none 0 0] 27)).heap.size := by simp
  generalize hw : ((w.alloc (.cells #[.slice (some ⟨bl, off, none⟩) rows.length c, .slice a' zs.length c'] 27)).alloc (.cells #[.slice none 0 0, .slice none 0 0] 27)) = w0 at *
  clear hw
  have n0_0 : w.heap.size < w0.heap.size := by omega
  have n0_1 : w.heap.size + 1 < w0.heap.size := by omega
  refine (spec_sample (some ⟨bl, off, none⟩) rows c a' zs c' _ (Hhr.out.below HB0.out) (Hhz.out.below HB0.out) hn hk HMM.out true h1).mono ?_
  rintro e w1 ⟨rfl, hb⟩
  have s1 : w0.heap.size ≤ w1.heap.size := hb.size
  have n1_0 : w.heap.size < w1.heap.size := by omega
  have n1_1 : w.heap.size + 1 < w1.heap.size := by omega
  replace x0_0 := cell_below hb x0_0 (by omega)
  replace x0_1 := cell_below hb x0_1 (by omega)
  replace x1_0 := cell_below hb x1_0 (by omega)
  replace x1_1 := cell_below hb x1_1 (by omega)
  replace f1_0 := fro_below hb f1_0 (by omega)
  replace f1_1 := fro_below hb f1_1 (by omega)
  have HB1 := Lib.hid (HB0.out.trans (hb.mono (by omega)))
  clear hb
  have hc0 := cell_below HB1.out HR0.out (by omega)
  rw [Nat.add_zero] at hc0
  go_wp2_with fail
  refine (spec_point p ys q _ (Hhq.out.below HB1.out) hw true h2).mono ?_
  rintro e w' ⟨rfl, rfl⟩
  go_wp2_with fail
  have HX0 := Lib.hid x0_0
  have HX1 := Lib.hid (show w1.cell? ⟨w.heap.size + 1, 0, none⟩ = some (.slice none 0 0) ∧ w1.cell? ⟨w.heap.size + 1, 1, none⟩ = some (.slice none 0 0) ∧ w1.frozen? ⟨w.heap.size + 1, 0, none⟩ = false ∧ w1.frozen? ⟨w.heap.size + 1, 1, none⟩ = false from ⟨x1_0, x1_1, f1_0, f1_1⟩)
  have HBC := HB1
  clear hc0
  have HA1 := Lib.hid (below_alloc w1 (.cells #[] 23))
  have hv0 := World.ownsRow_made (base := w1.heap.size) (e := 23) (size := 1) w1 #[] 0 (Nat.le_refl _) (by unfold maxLen; omega) rfl
  have HV0 := Lib.hid hv0
  clear hv0
  refine (spec_own a' zs c' (w1.alloc (.cells #[] 23)) (Hhz.out.below (HB1.out.trans (HA1.out.mono (by omega)))) hk (by omega)).mono ?_
  rintro e wl ⟨v, rfl, ho, hbl2⟩
  obtain ⟨p2, q2, rfl, _, _, _⟩ := ho.slice
  have HV1 := Lib.hid (ownsRow_block HV0.out (fun g e => hbl2.block g (HV0.out.lt g e).2))
  have HL1 := Lib.hid ho
  have hb := HA1.out.trans (hbl2.mono (by simp))
  have HBK := Lib.hid hb
  clear ho hbl2
  have s2 : w1.heap.size ≤ wl.heap.size := hb.size
  have n2_0 : w.heap.size < wl.heap.size := by omega
  have n2_1 : w.heap.size + 1 < wl.heap.size := by omega
  replace x0_0 := cell_below hb x0_0 (by omega)
  replace x0_1 := cell_below hb x0_1 (by omega)
  replace x1_0 := cell_below hb x1_0 (by omega)
  replace x1_1 := cell_below hb x1_1 (by omega)
  replace f1_0 := fro_below hb f1_0 (by omega)
  replace f1_1 := fro_below hb f1_1 (by omega)
  have HB2 := Lib.hid (HB1.out.trans (hb.mono (by omega)))
  clear hb
  go_wp2_with fail
  have HX := Lib.hid (show wl.cell? ⟨w.heap.size, 0, none⟩ = some (.slice (some ⟨bl, off, none⟩) rows.length c) ∧ wl.cell? ⟨w.heap.size + 1, 0, none⟩ = some (.slice none 0 0) ∧ wl.cell? ⟨w.heap.size + 1, 1, none⟩ = some (.slice none 0 0) ∧ wl.frozen? ⟨w.heap.size + 1, 0, none⟩ = false ∧ wl.frozen? ⟨w.heap.size + 1, 1, none⟩ = false from ⟨x0_0, x1_0, x1_1, f1_0, f1_1⟩)
  have hCl : w1.heap.size < wl.heap.size := by have := HV1.out.lt w1.heap.size rfl; exact this.2
  have HBI := Lib.hid (below_alloc wl (.cells #[.slice (some ⟨w1.heap.size, 0, none⟩) 0 0, .slice p2 zs.length q2] 27))
  have HY := Lib.hid (show (wl.alloc (.cells #[.slice (some ⟨w1.heap.size, 0, none⟩) 0 0, .slice p2 zs.length q2] 27)).cell? ⟨wl.heap.size, 0, none⟩ = some ((.slice (some ⟨w1.heap.size, 0, none⟩) 0 0)) ∧ (wl.alloc (.cells #[.slice (some ⟨w1.heap.size, 0, none⟩) 0 0, .slice p2 zs.length q2] 27)).cell? ⟨wl.heap.size, 1, none⟩ = some ((.slice p2 zs.length q2)) ∧ (wl.alloc (.cells #[.slice (some ⟨w1.heap.size, 0, none⟩) 0 0, .slice p2 zs.length q2] 27)).frozen? ⟨wl.heap.size, 0, none⟩ = false ∧ (wl.alloc (.cells #[.slice (some ⟨w1.heap.size, 0, none⟩) 0 0, .slice p2 zs.length q2] 27)).frozen? ⟨wl.heap.size, 1, none⟩ = false from ⟨cell_new _ _ _ rfl rfl, cell_new _ _ _ rfl rfl, fro_new _ _ _ rfl, fro_new _ _ _ rfl⟩)
  have HO1 := Lib.hid (show Out w1.heap.size (wl.heap.size) (wl.alloc (.cells #[.slice (some ⟨w1.heap.size, 0, none⟩) 0 0, .slice p2 zs.length q2] 27)).heap.size (wl.alloc (.cells #[.slice (some ⟨w1.heap.size, 0, none⟩) 0 0, .slice p2 zs.length q2] 27)) (.slice (some ⟨w1.heap.size, 0, none⟩) 0 0) (.slice p2 zs.length q2) [] [] zs from
    ⟨HV1.out.alloc _, (fun g e => by (have h9 : w1.heap.size = g := by simpa [Value.ownBlock] using e); simp; omega), RowsOf.nil _ _ _,
      (ownsRow_base HL1.out.1 (fun g hg => Nat.le_trans (by simp) (HL1.out.lt hg).1)).alloc _,
      (fun g e => by have h9 := (HL1.out.lt e).2.1; simp; omega), fun g e hb => by obtain ⟨i, h9, _⟩ := hb; simp at h9⟩)
  have sI : wl.heap.size + 1 ≤ (wl.alloc (.cells #[.slice (some ⟨w1.heap.size, 0, none⟩) 0 0, .slice p2 zs.length q2] 27)).heap.size := by simp
  have HBW := HB2
  clear x0_0 x0_1 x1_0 x1_1 f1_0 f1_1 HV0 HV1 HL1 HA1
  have HBJ := Lib.hid (HBK.out.trans (HBI.out.mono (by omega)))
  go_loopw [7] (fun i wr => ∃ (k : Nat) (v l : Value) (cs : List Value), k ≤ rows.length ∧ i = .int .i64 k ∧ Hid (wr.cell? ⟨wl.heap.size, 0, none⟩ = some (v) ∧ wr.cell? ⟨wl.heap.size, 1, none⟩ = some (l) ∧ wr.frozen? ⟨wl.heap.size, 0, none⟩ = false ∧ wr.frozen? ⟨wl.heap.size, 1, none⟩ = false) ∧ Hid (Out w1.heap.size (wl.heap.size) wr.heap.size wr v l cs (pickM (mv ys) rows k) zs) ∧ Hid (Below w1.heap.size w1 wr) ∧ wl.heap.size + 1 ≤ wr.heap.size) (fun i _ => rows.length - (intOf i).toNat)
  case atStart => exact ⟨0, _, _, [], Nat.zero_le _, rfl, HY, HO1, HBJ, sI⟩
  case round =>
    obtain ⟨k, v, l, cs, hk', rfl, HC, HO, HBl, hsz⟩ := hrel
    clear sI HY HO1 HBJ HBI
    by_cases hlt : k < rows.length
    · obtain ⟨bl', off', rp, rq, hab, hbl', hc, hpq, hrow⟩ := (Hhr.out.below HBC.out).at hlt
      obtain ⟨rfl, rfl⟩ : bl = bl' ∧ off = off' := by cases hab; exact ⟨rfl, rfl⟩
      have y0 := HC.out.1
      have HSR := Lib.hid (pick_succ (mv ys) rows k hlt)
      have HRl := Lib.hid (pick_length (mv ys) rows k hk')
      have hf0 := HF.out k hlt
      have HROW := Lib.hid hrow
      have xh := cell_below HBl.out HX0.out (by omega)
      have xr := cell_below HBl.out hc (by omega)
      have HT0 := Lib.hid (show ∀ wa : World, (wa.cell? ⟨w.heap.size, 0, none⟩ = some (.slice (some ⟨bl, off, none⟩) rows.length c) ∧ wa.cell? ⟨bl, off + k, none⟩ = some (.slice rp (rows.getD k []).length rq) ∧ wr.heap.size ≤ wa.heap.size ∧ Below w1.heap.size w1 wa) → (wa.cell? ⟨wl.heap.size, 0, none⟩ = some (v) ∧ wa.cell? ⟨wl.heap.size, 1, none⟩ = some (l) ∧ wa.frozen? ⟨wl.heap.size, 0, none⟩ = false ∧ wa.frozen? ⟨wl.heap.size, 1, none⟩ = false) → (Out w1.heap.size (wl.heap.size) wr.heap.size wa v l cs (pickM (mv ys) rows k) zs) → Calls Try.prog 73 #[.slice rp (rows.getD k []).length rq, .slice p ys.length q] wa (fun e w' => ∃ (p1 : Option Addr) (q1 : Nat), e = .returned (.slice p1 ((mv ys) (rows.getD k [])).length q1) ∧ OwnI wr.heap.size w'.heap.size w' (.slice p1 ((mv ys) (rows.getD k [])).length q1) ((mv ys) (rows.getD k [])) ∧ (Out w1.heap.size (wl.heap.size) wr.heap.size w' v l cs (pickM (mv ys) rows k) zs) ∧ (w'.cell? ⟨wl.heap.size, 0, none⟩ = some (v) ∧ w'.cell? ⟨wl.heap.size, 1, none⟩ = some (l) ∧ w'.frozen? ⟨wl.heap.size, 0, none⟩ = false ∧ w'.frozen? ⟨wl.heap.size, 1, none⟩ = false) ∧ w'.cell? ⟨w.heap.size, 0, none⟩ = some (.slice (some ⟨bl, off, none⟩) rows.length c) ∧ w'.cell? ⟨bl, off + k, none⟩ = some (.slice rp (rows.getD k []).length rq) ∧ wr.heap.size ≤ w'.heap.size ∧ Below w1.heap.size w1 w') from fun wa hS hQ hO => by
        have hwz := hS.2.2.1
        have hB := hS.2.2.2
        refine (spec_added rp (rows.getD k []) rq p ys q wa (HROW.out.below hB) (Hhq.out.below (HBC.out.trans (hB.mono (by omega)))) hf0.1 (by omega) hf0.2.2 HY9.out).mono ?_
        rintro e w' ⟨v', rfl, ho, hb⟩
        obtain ⟨p1, q1, rfl, _, _, _⟩ := ho.slice
        exact ⟨p1, q1, rfl, ho.mono hwz (Nat.le_refl _), hO.below hb, ⟨cell_below hb hQ.1 (by omega), cell_below hb hQ.2.1 (by omega), fro_below hb hQ.2.2.1 (by omega), fro_below hb hQ.2.2.2 (by omega)⟩, cell_below hb hS.1 (by omega), cell_below hb hS.2.1 (by omega), Nat.le_trans hwz hb.size, hB.trans (hb.mono (by omega))⟩)
      generalize (mv ys) (rows.getD k []) = r2 at *
      generalize rows.getD k [] = r at *
      generalize pickM (mv ys) rows k = RR at *
      have i1 : (0 : Int) ≤ (k : Int) := by omega
      have i2 : (k : Int) < (rows.length : Int) := by omega
      clear hc hrow hpq hab hf0
      have HA5 := Lib.hid (show ∀ (W W3 : World) (o : Option Nat), (W.cell? ⟨w.heap.size, 0, none⟩ = some (.slice (some ⟨bl, off, none⟩) rows.length c) ∧ W.cell? ⟨bl, off + k, none⟩ = some (.slice rp r.length rq) ∧ wr.heap.size ≤ W.heap.size ∧ Below w1.heap.size w1 W) → W.grownBy W3 o → (∀ g, o = some g → w1.heap.size ≤ g ∧ g ≠ wl.heap.size) → (W3.cell? ⟨w.heap.size, 0, none⟩ = some (.slice (some ⟨bl, off, none⟩) rows.length c) ∧ W3.cell? ⟨bl, off + k, none⟩ = some (.slice rp r.length rq) ∧ wr.heap.size ≤ W3.heap.size ∧ Below w1.heap.size w1 W3) from fun W W3 o hS hg ho => by
        have nf : ∀ q, some q = o → q < w1.heap.size → False := fun q e h => by have := (ho q e.symm).1; omega
        exact ⟨hg.cell hS.1 (fun e => nf _ e (by simp; omega)), hg.cell hS.2.1 (fun e => nf _ e (by simp; omega)), Nat.le_trans hS.2.2.1 hg.size, hS.2.2.2.grown hg (by have := hS.2.2.1; omega) (fun g e => (ho g e).1)⟩)
      have HQ := Lib.hid (show ∀ (W W3 : World) (o : Option Nat) (v l : Value), (W.cell? ⟨wl.heap.size, 0, none⟩ = some (v) ∧ W.cell? ⟨wl.heap.size, 1, none⟩ = some (l) ∧ W.frozen? ⟨wl.heap.size, 0, none⟩ = false ∧ W.frozen? ⟨wl.heap.size, 1, none⟩ = false) → W.grownBy W3 o → (∀ g, o = some g → w1.heap.size ≤ g ∧ g ≠ wl.heap.size) → wl.heap.size < W.heap.size → (W3.cell? ⟨wl.heap.size, 0, none⟩ = some (v) ∧ W3.cell? ⟨wl.heap.size, 1, none⟩ = some (l) ∧ W3.frozen? ⟨wl.heap.size, 0, none⟩ = false ∧ W3.frozen? ⟨wl.heap.size, 1, none⟩ = false) from fun W W3 o v l hQ hg ho hB => by
        have nf : ∀ q, some q = o → q = wl.heap.size → False := fun q e h => (ho q e.symm).2 h
        exact ⟨hg.cell hQ.1 (fun e => nf _ e rfl), hg.cell hQ.2.1 (fun e => nf _ e rfl), (hg.frozen_far ⟨wl.heap.size, 0, none⟩ hB (fun e => nf _ e rfl)).trans hQ.2.2.1, (hg.frozen_far ⟨wl.heap.size, 1, none⟩ hB (fun e => nf _ e rfl)).trans hQ.2.2.2⟩)
      go_wp2_with fail
      refine wp_region_noPanic ?_
      refine wp_region_held_drew (S := fun w' => w'.cell? ⟨w.heap.size, 0, none⟩ = some (.slice (some ⟨bl, off, none⟩) rows.length c) ∧ w'.cell? ⟨bl, off + k, none⟩ = some (.slice rp r.length rq) ∧ wr.heap.size ≤ w'.heap.size ∧ Below w1.heap.size w1 w') (by kernel_rfl) ?_ (fun hHeld => ?_)
      · exact ⟨xh, xr, Nat.le_refl _, HBl.out.drew⟩
      refine wpAnyH_take (i := 0) (v := ?_) rfl (by kernel_rfl) (by kernel_rfl) (by kernel_rfl) (fun _ _ _ h => h) (Or.inl ⟨by rfl, ?_⟩) (by assumption) ?_
      rotate_left
      · intro w9 hSw; (try dsimp only at hSw); go_simp; try with_reducible rfl
      try simp only [List.getElem_toArray, List.getElem_cons_succ, List.getElem_cons_zero, Act.put, List.setIfInBounds_toArray, List.set_cons_zero, List.set_cons_succ]
      refine wpAnyH_take (i := 2) (v := ?_) rfl (by kernel_rfl) (by kernel_rfl) (by kernel_rfl) (fun _ _ _ h => h) (Or.inl ⟨by rfl, ?_⟩) (by assumption) ?_
      rotate_left
      · intro w9 hSw; (try dsimp only at hSw); go_simp; try with_reducible rfl
      try simp only [List.getElem_toArray, List.getElem_cons_succ, List.getElem_cons_zero, Act.put, List.setIfInBounds_toArray, List.set_cons_zero, List.set_cons_succ]
      refine wpAnyH_take (i := 3) (v := ?_) rfl (by kernel_rfl) (by kernel_rfl) (by kernel_rfl) (fun _ _ _ h => h) (Or.inl ⟨by rfl, ?_⟩) (by assumption) ?_
      rotate_left
      · intro w9 hSw; (try dsimp only at hSw); go_simp; try with_reducible rfl
      try simp only [List.getElem_toArray, List.getElem_cons_succ, List.getElem_cons_zero, Act.put, List.setIfInBounds_toArray, List.set_cons_zero, List.set_cons_succ]
      refine wpAnyH_take (i := 4) (v := ?_) rfl (by kernel_rfl) (by kernel_rfl) (by kernel_rfl) (fun _ _ _ h => h) (Or.inl ⟨by rfl, ?_⟩) (by assumption) ?_
      rotate_left
      · intro w9 hSw; (try dsimp only at hSw); go_simp; try with_reducible rfl
      try simp only [List.getElem_toArray, List.getElem_cons_succ, List.getElem_cons_zero, Act.put, List.setIfInBounds_toArray, List.set_cons_zero, List.set_cons_succ]
      refine wpAnyH_take (i := 5) (v := ?_) rfl (by kernel_rfl) (by kernel_rfl) (by kernel_rfl) (fun _ _ _ h => h) (Or.inl ⟨by rfl, ?_⟩) (by assumption) ?_
      rotate_left
      · intro w9 hSw; (try dsimp only at hSw); go_simp; try with_reducible rfl
      try simp only [List.getElem_toArray, List.getElem_cons_succ, List.getElem_cons_zero, Act.put, List.setIfInBounds_toArray, List.set_cons_zero, List.set_cons_succ]
      refine wpAnyH_take (i := 6) (v := ?_) rfl (by kernel_rfl) (by kernel_rfl) (by kernel_rfl) (fun _ _ _ h => h) (Or.inl ⟨by rfl, ?_⟩) (by assumption) ?_
      rotate_left
      · intro w9 hSw; (try dsimp only at hSw); go_simp; try with_reducible rfl
      try simp only [List.getElem_toArray, List.getElem_cons_succ, List.getElem_cons_zero, Act.put, List.setIfInBounds_toArray, List.set_cons_zero, List.set_cons_succ]
      refine wpAnyH_take (i := 7) (v := ?_) rfl (by kernel_rfl) (by kernel_rfl) (by kernel_rfl) (fun _ _ _ h => h) (Or.inl ⟨by rfl, ?_⟩) (by assumption) ?_
      rotate_left
      · intro w9 hSw; (try dsimp only at hSw); go_simp; try with_reducible rfl
      try simp only [List.getElem_toArray, List.getElem_cons_succ, List.getElem_cons_zero, Act.put, List.setIfInBounds_toArray, List.set_cons_zero, List.set_cons_succ]
      refine wpAnyH_ready (rs := [1, 8]) (by kernel_rfl) (by simp) ?_
      refine AllReadyH.cons rfl (fun K hK => ?_) ?_
      · go_simp
        refine hK.out _ _ ?_ (fun hHeld => ?_)
        · exact hHeld
        clear hK K
        try simp only [List.getElem_toArray, List.getElem_cons_succ, List.getElem_cons_zero, Act.put, List.setIfInBounds_toArray, List.set_cons_zero, List.set_cons_succ]
        refine wpAnyH_ready (rs := [8]) (by kernel_rfl) (by simp) ?_
        refine AllReadyH.cons rfl (fun K hK => ?_) ?_
        · go_simp
          refine Calls.mono (HT0.out _ ?_ ?_ ?_) ?_
          · exact hHeld
          · exact HC.out
          · exact HO.out.below (Below.refl _ _).drew
          rintro e va ⟨p1, q1, rfl, ho0, hO0, ⟨q0_0, q0_1, q0_2, q0_3⟩, hbx⟩
          have z0 : ∀ O, (va.alloc O).cell? ⟨wl.heap.size, 0, none⟩ = some v := fun O => cell_old O q0_0
          have hx1 := Lib.hid hbx
          have hO1 := Lib.hid hO0
          have ho1 := Lib.hid ho0
          clear hO0 ho0
          refine hK.out _ _ ?_ (fun hHeld => ?_)
          · exact hbx
          clear hK K
          try simp only [List.getElem_toArray, List.getElem_cons_succ, List.getElem_cons_zero, Act.put, List.setIfInBounds_toArray, List.set_cons_zero, List.set_cons_succ]
          refine wpAnyH_ready (rs := [9]) (by kernel_rfl) (by simp) ?_
          refine AllReadyH.cons rfl (fun K hK => ?_) ?_
          · go_simp
            refine hK.out _ _ ?_ (fun hHeld => ?_)
            · exact ⟨cell_old _ hbx.1, cell_old _ hbx.2.1, Nat.le_trans hbx.2.2.1 (by simp), hbx.2.2.2.alloc (by have := hbx.2.2.1; omega) _⟩
            clear hK K
            try simp only [List.getElem_toArray, List.getElem_cons_succ, List.getElem_cons_zero, Act.put, List.setIfInBounds_toArray, List.set_cons_zero, List.set_cons_succ]
            refine wpAnyH_ready (rs := [10]) (by kernel_rfl) (by simp) ?_
            refine AllReadyH.cons rfl (fun K hK => ?_) ?_
            · (refine step_append_lies _ (by rfl) _ _ _ (by rfl) w1.heap.size 23 i0 _ 1 24 Try.underlying22 hi hz0 hz1 hz2 rfl (by omega) v RR.length cs (by rfl) (hO1.out.1.alloc _) ⟨va.heap.size, 0, none⟩ 1 1 [.slice p1 r2.length q1] (by rfl) (by rfl) (World.news_of_block (cs := #[.slice p1 r2.length q1]) (t := 23) (fr := (0, 0)) (heap_alloc_new va _)) (by simp [Value.oneCell']) (by omega) (by have := HRl.out; unfold maxLen; omega) (by have := HRl.out; omega) (Nat.le_trans (by omega) (Nat.le_trans hx1.out.2.2.1 (by simp))) (va.heap.size + 1) (by simp) ?_)
              intro gg cap w3 hown1 hgrow hat hlt'
              have hv9 := fun g e => And.intro (hO1.out.1.lt g e).1 (hO1.out.2.1 g e).1
              have hO3 := Lib.hid (Out.row hO1.out ho1.out hx1.out.2.2.1 (by omega) hgrow hown1 hat hlt')
              obtain ⟨t0, t1, t2, t3⟩ := HQ.out _ _ _ _ _ ⟨cell_old _ q0_0, cell_old _ q0_1, fro_old _ (by have := hx1.out.2.2.1; omega) q0_2, fro_old _ (by have := hx1.out.2.2.1; omega) q0_3⟩ hgrow hv9 (by have := hx1.out.2.2.1; simp; omega)
              have hx3 := Lib.hid (HA5.out _ _ _ ⟨cell_old _ hx1.out.1, cell_old _ hx1.out.2.1, Nat.le_trans hx1.out.2.2.1 (by simp), hx1.out.2.2.2.alloc (by have := hx1.out.2.2.1; omega) _⟩ hgrow hv9)
              clear hown1 hgrow hat hv9
              refine hK.out _ _ ?_ (fun hHeld => ?_)
              · exact hx3.out
              clear hK K
              try simp only [List.getElem_toArray, List.getElem_cons_succ, List.getElem_cons_zero, Act.put, List.setIfInBounds_toArray, List.set_cons_zero, List.set_cons_succ]
              refine wpAnyH_take (i := 11) (v := ?_) rfl (by kernel_rfl) (by kernel_rfl) (by kernel_rfl) (fun _ _ _ h => h) (Or.inl ⟨by rfl, ?_⟩) (by assumption) ?_
              rotate_left
              · intro w9 hSw; (try dsimp only at hSw); go_simp; try with_reducible rfl
              try simp only [List.getElem_toArray, List.getElem_cons_succ, List.getElem_cons_zero, Act.put, List.setIfInBounds_toArray, List.set_cons_zero, List.set_cons_succ]
              refine wpAnyH_ready (rs := [12]) (by kernel_rfl) (by simp) ?_
              refine AllReadyH.cons rfl (fun K hK => ?_) ?_
              · go_simp
                refine hK.out _ _ ?_ (fun hHeld => ?_)
                · exact ⟨cell_set hx3.out.1 (by simp; omega) _, cell_set hx3.out.2.1 (by simp; omega) _, by rw [size_set]; exact hx3.out.2.2.1, hx3.out.2.2.2.setCell (by simp; omega) _⟩
                clear hK K
                try simp only [List.getElem_toArray, List.getElem_cons_succ, List.getElem_cons_zero, Act.put, List.setIfInBounds_toArray, List.set_cons_zero, List.set_cons_succ]
                refine wpAnyH_done (by kernel_rfl) ?_ _
                refine NoPanic.normal ?_
                have HO6 := Lib.hid (show Out w1.heap.size (wl.heap.size) (w3.setCell ⟨wl.heap.size, 0, none⟩ (Value.slice (some ⟨gg, 0, none⟩) (RR.length + 1) cap)).heap.size (w3.setCell ⟨wl.heap.size, 0, none⟩ (Value.slice (some ⟨gg, 0, none⟩) (RR.length + 1) cap)) (Value.slice (some ⟨gg, 0, none⟩) (RR.length + 1) cap) l (cs ++ [.slice p1 r2.length q1]) (RR ++ [r2]) zs from by rw [size_set]; exact hO3.out.set 0 _)
                have HY6 := Lib.hid (show (w3.setCell ⟨wl.heap.size, 0, none⟩ (Value.slice (some ⟨gg, 0, none⟩) (RR.length + 1) cap)).cell? ⟨wl.heap.size, 0, none⟩ = some ((Value.slice (some ⟨gg, 0, none⟩) (RR.length + 1) cap)) ∧ (w3.setCell ⟨wl.heap.size, 0, none⟩ (Value.slice (some ⟨gg, 0, none⟩) (RR.length + 1) cap)).cell? ⟨wl.heap.size, 1, none⟩ = some (l) ∧ (w3.setCell ⟨wl.heap.size, 0, none⟩ (Value.slice (some ⟨gg, 0, none⟩) (RR.length + 1) cap)).frozen? ⟨wl.heap.size, 0, none⟩ = false ∧ (w3.setCell ⟨wl.heap.size, 0, none⟩ (Value.slice (some ⟨gg, 0, none⟩) (RR.length + 1) cap)).frozen? ⟨wl.heap.size, 1, none⟩ = false from ⟨World.cell?_setCell_same _ _ _ t0, (World.cell?_setCell_other _ _ _ _ (by simp)).trans t1, by rw [World.frozen?_setCell]; exact t2, by rw [World.frozen?_setCell]; exact t3⟩)
                have hb6 := Lib.hid hHeld.2.2.2
                have hs6 : wl.heap.size + 1 ≤ (w3.setCell ⟨wl.heap.size, 0, none⟩ (Value.slice (some ⟨gg, 0, none⟩) (RR.length + 1) cap)).heap.size := by have := hHeld.2.2.1; omega
                clear hHeld t0 t1 t2 t3
                go_wp2_with fail
                go_roundw
                case rel => exact ⟨k + 1, _, _, _, by omega, by go_num, HY6, by rw [HSR.out]; exact HO6, hb6, hs6⟩
                case measure => simp [intOf]; omega
              exact AllReadyH.nil
            exact AllReadyH.nil
          exact AllReadyH.nil
        exact AllReadyH.nil
      refine AllReadyH.cons rfl (fun K hK => ?_) ?_
      · go_simp
        refine Calls.mono (HT0.out _ ?_ ?_ ?_) ?_
        · exact hHeld
        · exact HC.out
        · exact HO.out.below (Below.refl _ _).drew
        rintro e va ⟨p1, q1, rfl, ho0, hO0, ⟨q0_0, q0_1, q0_2, q0_3⟩, hbx⟩
        have z0 : ∀ O, (va.alloc O).cell? ⟨wl.heap.size, 0, none⟩ = some v := fun O => cell_old O q0_0
        have hx1 := Lib.hid hbx
        have hO1 := Lib.hid hO0
        have ho1 := Lib.hid ho0
        clear hO0 ho0
        refine hK.out _ _ ?_ (fun hHeld => ?_)
        · exact hbx
        clear hK K
        try simp only [List.getElem_toArray, List.getElem_cons_succ, List.getElem_cons_zero, Act.put, List.setIfInBounds_toArray, List.set_cons_zero, List.set_cons_succ]
        refine wpAnyH_ready (rs := [1, 9]) (by kernel_rfl) (by simp) ?_
        refine AllReadyH.cons rfl (fun K hK => ?_) ?_
        · go_simp
          refine hK.out _ _ ?_ (fun hHeld => ?_)
          · exact hHeld
          clear hK K
          try simp only [List.getElem_toArray, List.getElem_cons_succ, List.getElem_cons_zero, Act.put, List.setIfInBounds_toArray, List.set_cons_zero, List.set_cons_succ]
          refine wpAnyH_ready (rs := [9]) (by kernel_rfl) (by simp) ?_
          refine AllReadyH.cons rfl (fun K hK => ?_) ?_
          · go_simp
            refine hK.out _ _ ?_ (fun hHeld => ?_)
            · exact ⟨cell_old _ hbx.1, cell_old _ hbx.2.1, Nat.le_trans hbx.2.2.1 (by simp), hbx.2.2.2.alloc (by have := hbx.2.2.1; omega) _⟩
            clear hK K
            try simp only [List.getElem_toArray, List.getElem_cons_succ, List.getElem_cons_zero, Act.put, List.setIfInBounds_toArray, List.set_cons_zero, List.set_cons_succ]
            refine wpAnyH_ready (rs := [10]) (by kernel_rfl) (by simp) ?_
            refine AllReadyH.cons rfl (fun K hK => ?_) ?_
            · (refine step_append_lies _ (by rfl) _ _ _ (by rfl) w1.heap.size 23 i0 _ 1 24 Try.underlying22 hi hz0 hz1 hz2 rfl (by omega) v RR.length cs (by rfl) (hO1.out.1.alloc _) ⟨va.heap.size, 0, none⟩ 1 1 [.slice p1 r2.length q1] (by rfl) (by rfl) (World.news_of_block (cs := #[.slice p1 r2.length q1]) (t := 23) (fr := (0, 0)) (heap_alloc_new va _)) (by simp [Value.oneCell']) (by omega) (by have := HRl.out; unfold maxLen; omega) (by have := HRl.out; omega) (Nat.le_trans (by omega) (Nat.le_trans hx1.out.2.2.1 (by simp))) (va.heap.size + 1) (by simp) ?_)
              intro gg cap w3 hown1 hgrow hat hlt'
              have hv9 := fun g e => And.intro (hO1.out.1.lt g e).1 (hO1.out.2.1 g e).1
              have hO3 := Lib.hid (Out.row hO1.out ho1.out hx1.out.2.2.1 (by omega) hgrow hown1 hat hlt')
              obtain ⟨t0, t1, t2, t3⟩ := HQ.out _ _ _ _ _ ⟨cell_old _ q0_0, cell_old _ q0_1, fro_old _ (by have := hx1.out.2.2.1; omega) q0_2, fro_old _ (by have := hx1.out.2.2.1; omega) q0_3⟩ hgrow hv9 (by have := hx1.out.2.2.1; simp; omega)
              have hx3 := Lib.hid (HA5.out _ _ _ ⟨cell_old _ hx1.out.1, cell_old _ hx1.out.2.1, Nat.le_trans hx1.out.2.2.1 (by simp), hx1.out.2.2.2.alloc (by have := hx1.out.2.2.1; omega) _⟩ hgrow hv9)
              clear hown1 hgrow hat hv9
              refine hK.out _ _ ?_ (fun hHeld => ?_)
              · exact hx3.out
              clear hK K
              try simp only [List.getElem_toArray, List.getElem_cons_succ, List.getElem_cons_zero, Act.put, List.setIfInBounds_toArray, List.set_cons_zero, List.set_cons_succ]
              refine wpAnyH_take (i := 11) (v := ?_) rfl (by kernel_rfl) (by kernel_rfl) (by kernel_rfl) (fun _ _ _ h => h) (Or.inl ⟨by rfl, ?_⟩) (by assumption) ?_
              rotate_left
              · intro w9 hSw; (try dsimp only at hSw); go_simp; try with_reducible rfl
              try simp only [List.getElem_toArray, List.getElem_cons_succ, List.getElem_cons_zero, Act.put, List.setIfInBounds_toArray, List.set_cons_zero, List.set_cons_succ]
              refine wpAnyH_ready (rs := [12]) (by kernel_rfl) (by simp) ?_
              refine AllReadyH.cons rfl (fun K hK => ?_) ?_
              · go_simp
                refine hK.out _ _ ?_ (fun hHeld => ?_)
                · exact ⟨cell_set hx3.out.1 (by simp; omega) _, cell_set hx3.out.2.1 (by simp; omega) _, by rw [size_set]; exact hx3.out.2.2.1, hx3.out.2.2.2.setCell (by simp; omega) _⟩
                clear hK K
                try simp only [List.getElem_toArray, List.getElem_cons_succ, List.getElem_cons_zero, Act.put, List.setIfInBounds_toArray, List.set_cons_zero, List.set_cons_succ]
                refine wpAnyH_done (by kernel_rfl) ?_ _
                refine NoPanic.normal ?_
                have HO6 := Lib.hid (show Out w1.heap.size (wl.heap.size) (w3.setCell ⟨wl.heap.size, 0, none⟩ (Value.slice (some ⟨gg, 0, none⟩) (RR.length + 1) cap)).heap.size (w3.setCell ⟨wl.heap.size, 0, none⟩ (Value.slice (some ⟨gg, 0, none⟩) (RR.length + 1) cap)) (Value.slice (some ⟨gg, 0, none⟩) (RR.length + 1) cap) l (cs ++ [.slice p1 r2.length q1]) (RR ++ [r2]) zs from by rw [size_set]; exact hO3.out.set 0 _)
                have HY6 := Lib.hid (show (w3.setCell ⟨wl.heap.size, 0, none⟩ (Value.slice (some ⟨gg, 0, none⟩) (RR.length + 1) cap)).cell? ⟨wl.heap.size, 0, none⟩ = some ((Value.slice (some ⟨gg, 0, none⟩) (RR.length + 1) cap)) ∧ (w3.setCell ⟨wl.heap.size, 0, none⟩ (Value.slice (some ⟨gg, 0, none⟩) (RR.length + 1) cap)).cell? ⟨wl.heap.size, 1, none⟩ = some (l) ∧ (w3.setCell ⟨wl.heap.size, 0, none⟩ (Value.slice (some ⟨gg, 0, none⟩) (RR.length + 1) cap)).frozen? ⟨wl.heap.size, 0, none⟩ = false ∧ (w3.setCell ⟨wl.heap.size, 0, none⟩ (Value.slice (some ⟨gg, 0, none⟩) (RR.length + 1) cap)).frozen? ⟨wl.heap.size, 1, none⟩ = false from ⟨World.cell?_setCell_same _ _ _ t0, (World.cell?_setCell_other _ _ _ _ (by simp)).trans t1, by rw [World.frozen?_setCell]; exact t2, by rw [World.frozen?_setCell]; exact t3⟩)
                have hb6 := Lib.hid hHeld.2.2.2
                have hs6 : wl.heap.size + 1 ≤ (w3.setCell ⟨wl.heap.size, 0, none⟩ (Value.slice (some ⟨gg, 0, none⟩) (RR.length + 1) cap)).heap.size := by have := hHeld.2.2.1; omega
                clear hHeld t0 t1 t2 t3
                go_wp2_with fail
                go_roundw
                case rel => exact ⟨k + 1, _, _, _, by omega, by go_num, HY6, by rw [HSR.out]; exact HO6, hb6, hs6⟩
                case measure => simp [intOf]; omega
              exact AllReadyH.nil
            exact AllReadyH.nil
          exact AllReadyH.nil
        refine AllReadyH.cons rfl (fun K hK => ?_) ?_
        · go_simp
          refine hK.out _ _ ?_ (fun hHeld => ?_)
          · exact ⟨cell_old _ hbx.1, cell_old _ hbx.2.1, Nat.le_trans hbx.2.2.1 (by simp), hbx.2.2.2.alloc (by have := hbx.2.2.1; omega) _⟩
          clear hK K
          try simp only [List.getElem_toArray, List.getElem_cons_succ, List.getElem_cons_zero, Act.put, List.setIfInBounds_toArray, List.set_cons_zero, List.set_cons_succ]
          refine wpAnyH_ready (rs := [1]) (by kernel_rfl) (by simp) ?_
          refine AllReadyH.cons rfl (fun K hK => ?_) ?_
          · go_simp
            refine hK.out _ _ ?_ (fun hHeld => ?_)
            · exact hHeld
            clear hK K
            try simp only [List.getElem_toArray, List.getElem_cons_succ, List.getElem_cons_zero, Act.put, List.setIfInBounds_toArray, List.set_cons_zero, List.set_cons_succ]
            refine wpAnyH_ready (rs := [10]) (by kernel_rfl) (by simp) ?_
            refine AllReadyH.cons rfl (fun K hK => ?_) ?_
            · (refine step_append_lies _ (by rfl) _ _ _ (by rfl) w1.heap.size 23 i0 _ 1 24 Try.underlying22 hi hz0 hz1 hz2 rfl (by omega) v RR.length cs (by rfl) (hO1.out.1.alloc _) ⟨va.heap.size, 0, none⟩ 1 1 [.slice p1 r2.length q1] (by rfl) (by rfl) (World.news_of_block (cs := #[.slice p1 r2.length q1]) (t := 23) (fr := (0, 0)) (heap_alloc_new va _)) (by simp [Value.oneCell']) (by omega) (by have := HRl.out; unfold maxLen; omega) (by have := HRl.out; omega) (Nat.le_trans (by omega) (Nat.le_trans hx1.out.2.2.1 (by simp))) (va.heap.size + 1) (by simp) ?_)
              intro gg cap w3 hown1 hgrow hat hlt'
              have hv9 := fun g e => And.intro (hO1.out.1.lt g e).1 (hO1.out.2.1 g e).1
              have hO3 := Lib.hid (Out.row hO1.out ho1.out hx1.out.2.2.1 (by omega) hgrow hown1 hat hlt')
              obtain ⟨t0, t1, t2, t3⟩ := HQ.out _ _ _ _ _ ⟨cell_old _ q0_0, cell_old _ q0_1, fro_old _ (by have := hx1.out.2.2.1; omega) q0_2, fro_old _ (by have := hx1.out.2.2.1; omega) q0_3⟩ hgrow hv9 (by have := hx1.out.2.2.1; simp; omega)
              have hx3 := Lib.hid (HA5.out _ _ _ ⟨cell_old _ hx1.out.1, cell_old _ hx1.out.2.1, Nat.le_trans hx1.out.2.2.1 (by simp), hx1.out.2.2.2.alloc (by have := hx1.out.2.2.1; omega) _⟩ hgrow hv9)
              clear hown1 hgrow hat hv9
              refine hK.out _ _ ?_ (fun hHeld => ?_)
              · exact hx3.out
              clear hK K
              try simp only [List.getElem_toArray, List.getElem_cons_succ, List.getElem_cons_zero, Act.put, List.setIfInBounds_toArray, List.set_cons_zero, List.set_cons_succ]
              refine wpAnyH_take (i := 11) (v := ?_) rfl (by kernel_rfl) (by kernel_rfl) (by kernel_rfl) (fun _ _ _ h => h) (Or.inl ⟨by rfl, ?_⟩) (by assumption) ?_
              rotate_left
              · intro w9 hSw; (try dsimp only at hSw); go_simp; try with_reducible rfl
              try simp only [List.getElem_toArray, List.getElem_cons_succ, List.getElem_cons_zero, Act.put, List.setIfInBounds_toArray, List.set_cons_zero, List.set_cons_succ]
              refine wpAnyH_ready (rs := [12]) (by kernel_rfl) (by simp) ?_
              refine AllReadyH.cons rfl (fun K hK => ?_) ?_
              · go_simp
                refine hK.out _ _ ?_ (fun hHeld => ?_)
                · exact ⟨cell_set hx3.out.1 (by simp; omega) _, cell_set hx3.out.2.1 (by simp; omega) _, by rw [size_set]; exact hx3.out.2.2.1, hx3.out.2.2.2.setCell (by simp; omega) _⟩
                clear hK K
                try simp only [List.getElem_toArray, List.getElem_cons_succ, List.getElem_cons_zero, Act.put, List.setIfInBounds_toArray, List.set_cons_zero, List.set_cons_succ]
                refine wpAnyH_done (by kernel_rfl) ?_ _
                refine NoPanic.normal ?_
                have HO6 := Lib.hid (show Out w1.heap.size (wl.heap.size) (w3.setCell ⟨wl.heap.size, 0, none⟩ (Value.slice (some ⟨gg, 0, none⟩) (RR.length + 1) cap)).heap.size (w3.setCell ⟨wl.heap.size, 0, none⟩ (Value.slice (some ⟨gg, 0, none⟩) (RR.length + 1) cap)) (Value.slice (some ⟨gg, 0, none⟩) (RR.length + 1) cap) l (cs ++ [.slice p1 r2.length q1]) (RR ++ [r2]) zs from by rw [size_set]; exact hO3.out.set 0 _)
                have HY6 := Lib.hid (show (w3.setCell ⟨wl.heap.size, 0, none⟩ (Value.slice (some ⟨gg, 0, none⟩) (RR.length + 1) cap)).cell? ⟨wl.heap.size, 0, none⟩ = some ((Value.slice (some ⟨gg, 0, none⟩) (RR.length + 1) cap)) ∧ (w3.setCell ⟨wl.heap.size, 0, none⟩ (Value.slice (some ⟨gg, 0, none⟩) (RR.length + 1) cap)).cell? ⟨wl.heap.size, 1, none⟩ = some (l) ∧ (w3.setCell ⟨wl.heap.size, 0, none⟩ (Value.slice (some ⟨gg, 0, none⟩) (RR.length + 1) cap)).frozen? ⟨wl.heap.size, 0, none⟩ = false ∧ (w3.setCell ⟨wl.heap.size, 0, none⟩ (Value.slice (some ⟨gg, 0, none⟩) (RR.length + 1) cap)).frozen? ⟨wl.heap.size, 1, none⟩ = false from ⟨World.cell?_setCell_same _ _ _ t0, (World.cell?_setCell_other _ _ _ _ (by simp)).trans t1, by rw [World.frozen?_setCell]; exact t2, by rw [World.frozen?_setCell]; exact t3⟩)
                have hb6 := Lib.hid hHeld.2.2.2
                have hs6 : wl.heap.size + 1 ≤ (w3.setCell ⟨wl.heap.size, 0, none⟩ (Value.slice (some ⟨gg, 0, none⟩) (RR.length + 1) cap)).heap.size := by have := hHeld.2.2.1; omega
                clear hHeld t0 t1 t2 t3
                go_wp2_with fail
                go_roundw
                case rel => exact ⟨k + 1, _, _, _, by omega, by go_num, HY6, by rw [HSR.out]; exact HO6, hb6, hs6⟩
                case measure => simp [intOf]; omega
              exact AllReadyH.nil
            exact AllReadyH.nil
          exact AllReadyH.nil
        exact AllReadyH.nil
      exact AllReadyH.nil
    · obtain rfl : k = rows.length := by omega
      have HS := Lib.hid (HO.out.toS (by omega))
      obtain ⟨y0, y1, _, _⟩ := HC.out
      have x1_0 := cell_below HBl.out HX1.out.1 (by omega)
      have x1_1 := cell_below HBl.out HX1.out.2.1 (by omega)
      have f1_0 := fro_below HBl.out HX1.out.2.2.1 (by omega)
      have f1_1 := fro_below HBl.out HX1.out.2.2.2 (by omega)
      have xh := cell_below HBl.out HX0.out (by omega)
      have HBE := Lib.hid (HBC.out.trans (HBl.out.mono (by omega)))
      have hs9 := HBl.out.size
      rw [pick_all] at HS
      have HML := Lib.hid (show (∀ r ∈ rows.map (mv ys), r.length ≤ 1048576) ∧ (rows.map (mv ys)).length ≤ 1048576 from ⟨map_len (fun k hk => by rw [show (mv ys (rows.getD k [])).length = (rows.getD k []).length from plus_length _ _ _]; have := (HF.out k hk).2.1; omega), by rw [List.length_map]; omega⟩)
      generalize rows.map (mv ys) = RM at *
      obtain ⟨p1, q1, rfl, _, _, _⟩ := HS.out.grid.slice
      obtain ⟨p3, q3, rfl, _, _, _⟩ := HS.out.ints.slice
      have HKP := Lib.hid (show Calls Try.prog 74 #[.agg #[.slice p1 (RM).length q1, .slice p3 zs.length q3]] wr (fun e w' => e = .returned (.tuple #[.agg #[.slice none 0 0, .slice none 0 0], .bool false]) ∧ Below wr.heap.size wr w') from skept.spec_no p1 (RM) q1 p3 zs q3 wr HS.out.grid.reads HS.out.ints.reads HML.out.2 hk HML.out.1 h)
      go_wp2_with fail
      refine HKP.out.mono ?_
      rintro e w5 ⟨rfl, hb⟩
      replace x1_0 := cell_below hb x1_0 (by omega)
      replace x1_1 := cell_below hb x1_1 (by omega)
      replace f1_0 := fro_below hb f1_0 (by omega)
      replace f1_1 := fro_below hb f1_1 (by omega)
      have HB5 := Lib.hid (HBE.out.trans (hb.mono (by omega)))
      have HS5 := Lib.hid (HS.out.below hb)
      have hs5 := hb.size
      clear hb
      go_wp2_with fail
      refine bodyPost_ret (v := .tuple #[.agg #[.slice none 0 0, .slice none 0 0], .bool false]) (by simp [results, Try.results16, go_sem, x1_0, x1_1]) rfl ⟨_, _, rfl, ?_, ?_⟩
      · exact OwnS.of (OwnG.nil w.heap.size 0 _) (OwnI.nil w.heap.size 0 _) (.inl (Nat.zero_le _)) (Nat.le_refl _) (Nat.le_refl _) (Nat.zero_le _) (Nat.zero_le _)
      · exact (HB5.out.setCell (by simp) _).setCell (by simp) _
set_option maxRecDepth 100000 in
set_option maxHeartbeats 4000000 in
theorem spec_full (a : Option Addr) (rows : List (List Int)) (c : Nat) (a' : Option Addr) (zs : List Int) (c' : Nat) (p : Option Addr) (ys : List Int) (q : Nat) (w : World) (hr : grid.Reads w a rows) (hz : ints.Reads .i64 w a' zs) (hq : ints.Reads .i64 w p ys) (hn : rows.length ≤ 1048576) (hk : zs.length ≤ 1048576) (hm : ∀ r ∈ rows, r.length ≤ 1048576) (hw : ys.length ≤ 1048576) (hA : mvA rows zs ys = true) (h : Hid (sampleB (rows.map (mv ys)) zs = true)) :
    Calls Try.prog 16 #[.agg #[.slice a rows.length c, .slice a' zs.length c'], .slice p ys.length q] w (RetSB (rows.map (mv ys)) zs true w) := by
  have HMM := Lib.hid hm
  clear hm
  obtain ⟨i0, hi, hz0, hz1, hz2⟩ := info_parts infoInts
  obtain ⟨iI, hi', hz0', hz1', hz2'⟩ := info_parts own1.infoInt
  obtain ⟨h1', h0, hl, h2'⟩ := (mvA_iff _ _ _).1 hA
  have h1 := Lib.hid h1'
  have h2 := Lib.hid h2'
  have hzl := ((sampleB_iff _ _).1 h1').2.1
  have s16 := ((sampleB_iff _ _).1 h1').1
  have HY9 := Lib.hid ((pointB_iff _).1 h2').2.2
  have HF := Lib.hid (show ∀ k, k < rows.length → ys.length = (rows.getD k []).length ∧ (1 ≤ (rows.getD k []).length ∧ (rows.getD k []).length ≤ 4) ∧ numsB 9 (rows.getD k []) = true from fun k hk => ⟨by rw [(row_ok h1' k hk).2]; exact hl, ⟨((pointB_iff _).1 (row_ok h1' k hk).1).1, ((pointB_iff _).1 (row_ok h1' k hk).1).2.1⟩, ((pointB_iff _).1 (row_ok h1' k hk).1).2.2⟩)
  obtain ⟨bl, off, rp0, rq0, hab, hbl, hc, hpq, hrow⟩ := hr.at h0
  have HR0 := Lib.hid hc
  subst hab
  clear hpq hrow hc
  have g0 : ((rows.length : Int) == 0) = false := by rw [beq_eq_false_iff_ne]; omega
  have g1 : ((ys.length : Int) != ((rows.getD 0 []).length : Int)) = false := by rw [bne_eq_false_iff_eq]; omega
  have h0z : 0 < zs.length := by omega
  clear h1' h2' hl hA hzl
  generalize rows.getD 0 [] = r0 at *
  have Hhr := Lib.hid hr
  have Hhz := Lib.hid hz
  have Hhq := Lib.hid hq
  clear hr hz hq
  go_enter Try.func16, Try.ntmps16
  go_wp2_with fail
  have x0_0 : (w.alloc (.cells #[.slice (some ⟨bl, off, none⟩) rows.length c, .slice a' zs.length c'] 27)).cell? ⟨w.heap.size, 0, none⟩ = some (.slice (some ⟨bl, off, none⟩) rows.length c) := cell_new _ _ _ (by simp) rfl
  have x0_1 : (w.alloc (.cells #[.slice (some ⟨bl, off, none⟩) rows.length c, .slice a' zs.length c'] 27)).cell? ⟨w.heap.size, 1, none⟩ = some (.slice a' zs.length c') := cell_new _ _ _ (by simp) rfl
  have HB0 := Lib.hid (below_alloc w (.cells #[.slice (some ⟨bl, off, none⟩) rows.length c, .slice a' zs.length c'] 27))
  replace x0_0 := cell_old (.cells #[.slice none 0 0, .slice none 0 0] 27) x0_0
  replace x0_1 := cell_old (.cells #[.slice none 0 0, .slice none 0 0] 27) x0_1
  have x1_0 : ((w.alloc (.cells #[.slice (some ⟨bl, off, none⟩) rows.length c, .slice a' zs.length c'] 27)).alloc (.cells #[.slice none 0 0, .slice none 0 0] 27)).cell? ⟨w.heap.size + 1, 0, none⟩ = some (.slice none 0 0) := cell_new _ _ _ (by simp) rfl
  have x1_1 : ((w.alloc (.cells #[.slice (some ⟨bl, off, none⟩) rows.length c, .slice a' zs.length c'] 27)).alloc (.cells #[.slice none 0 0, .slice none 0 0] 27)).cell? ⟨w.heap.size + 1, 1, none⟩ = some (.slice none 0 0) := cell_new _ _ _ (by simp) rfl
  have f1_0 : ((w.alloc (.cells #[.slice (some ⟨bl, off, none⟩) rows.length c, .slice a' zs.length c'] 27)).alloc (.cells #[.slice none 0 0, .slice none 0 0] 27)).frozen? ⟨w.heap.size + 1, 0, none⟩ = false := fro_new _ _ _ (by simp)
  have f1_1 : ((w.alloc (.cells #[.slice (some ⟨bl, off, none⟩) rows.length c, .slice a' zs.length c'] 27)).alloc (.cells #[.slice none 0 0, .slice none 0 0] 27)).frozen? ⟨w.heap.size + 1, 1, none⟩ = false := fro_new _ _ _ (by simp)
  replace HB0 := Lib.hid (HB0.out.alloc (by simp) (.cells #[.slice none 0 0, .slice none 0 0] 27))
  have s0 : w.heap.size + 2 ≤ ((w.alloc (.cells #[.slice (some ⟨bl, off, none⟩) rows.length c, .slice a' zs.length c'] 27)).alloc (.cells #[.slice none 0 0, .slice none 0 0] 27)).heap.size := by simp
  generalize hw : ((w.alloc (.cells #[.slice (some ⟨bl, off, none⟩) rows.length c, .slice a' zs.length c'] 27)).alloc (.cells #[.slice none 0 0, .slice none 0 0] 27)) = w0 at *
  clear hw
  have n0_0 : w.heap.size < w0.heap.size := by omega
  have n0_1 : w.heap.size + 1 < w0.heap.size := by omega
  refine (spec_sample (some ⟨bl, off, none⟩) rows c a' zs c' _ (Hhr.out.below HB0.out) (Hhz.out.below HB0.out) hn hk HMM.out true h1).mono ?_
  rintro e w1 ⟨rfl, hb⟩
  have s1 : w0.heap.size ≤ w1.heap.size := hb.size
  have n1_0 : w.heap.size < w1.heap.size := by omega
  have n1_1 : w.heap.size + 1 < w1.heap.size := by omega
  replace x0_0 := cell_below hb x0_0 (by omega)
  replace x0_1 := cell_below hb x0_1 (by omega)
  replace x1_0 := cell_below hb x1_0 (by omega)
  replace x1_1 := cell_below hb x1_1 (by omega)
  replace f1_0 := fro_below hb f1_0 (by omega)
  replace f1_1 := fro_below hb f1_1 (by omega)
  have HB1 := Lib.hid (HB0.out.trans (hb.mono (by omega)))
  clear hb
  have hc0 := cell_below HB1.out HR0.out (by omega)
  rw [Nat.add_zero] at hc0
  go_wp2_with fail
  refine (spec_point p ys q _ (Hhq.out.below HB1.out) hw true h2).mono ?_
  rintro e w' ⟨rfl, rfl⟩
  go_wp2_with fail
  have HX0 := Lib.hid x0_0
  have HX1 := Lib.hid (show w1.cell? ⟨w.heap.size + 1, 0, none⟩ = some (.slice none 0 0) ∧ w1.cell? ⟨w.heap.size + 1, 1, none⟩ = some (.slice none 0 0) ∧ w1.frozen? ⟨w.heap.size + 1, 0, none⟩ = false ∧ w1.frozen? ⟨w.heap.size + 1, 1, none⟩ = false from ⟨x1_0, x1_1, f1_0, f1_1⟩)
  have HBC := HB1
  clear hc0
  have HA1 := Lib.hid (below_alloc w1 (.cells #[] 23))
  have hv0 := World.ownsRow_made (base := w1.heap.size) (e := 23) (size := 1) w1 #[] 0 (Nat.le_refl _) (by unfold maxLen; omega) rfl
  have HV0 := Lib.hid hv0
  clear hv0
  refine (spec_own a' zs c' (w1.alloc (.cells #[] 23)) (Hhz.out.below (HB1.out.trans (HA1.out.mono (by omega)))) hk (by omega)).mono ?_
  rintro e wl ⟨v, rfl, ho, hbl2⟩
  obtain ⟨p2, q2, rfl, _, _, _⟩ := ho.slice
  have HV1 := Lib.hid (ownsRow_block HV0.out (fun g e => hbl2.block g (HV0.out.lt g e).2))
  have HL1 := Lib.hid ho
  have hb := HA1.out.trans (hbl2.mono (by simp))
  have HBK := Lib.hid hb
  clear ho hbl2
  have s2 : w1.heap.size ≤ wl.heap.size := hb.size
  have n2_0 : w.heap.size < wl.heap.size := by omega
  have n2_1 : w.heap.size + 1 < wl.heap.size := by omega
  replace x0_0 := cell_below hb x0_0 (by omega)
  replace x0_1 := cell_below hb x0_1 (by omega)
  replace x1_0 := cell_below hb x1_0 (by omega)
  replace x1_1 := cell_below hb x1_1 (by omega)
  replace f1_0 := fro_below hb f1_0 (by omega)
  replace f1_1 := fro_below hb f1_1 (by omega)
  have HB2 := Lib.hid (HB1.out.trans (hb.mono (by omega)))
  clear hb
  go_wp2_with fail
  have HX := Lib.hid (show wl.cell? ⟨w.heap.size, 0, none⟩ = some (.slice (some ⟨bl, off, none⟩) rows.length c) ∧ wl.cell? ⟨w.heap.size + 1, 0, none⟩ = some (.slice none 0 0) ∧ wl.cell? ⟨w.heap.size + 1, 1, none⟩ = some (.slice none 0 0) ∧ wl.frozen? ⟨w.heap.size + 1, 0, none⟩ = false ∧ wl.frozen? ⟨w.heap.size + 1, 1, none⟩ = false from ⟨x0_0, x1_0, x1_1, f1_0, f1_1⟩)
  have hCl : w1.heap.size < wl.heap.size := by have := HV1.out.lt w1.heap.size rfl; exact this.2
  have HBI := Lib.hid (below_alloc wl (.cells #[.slice (some ⟨w1.heap.size, 0, none⟩) 0 0, .slice p2 zs.length q2] 27))
  have HY := Lib.hid (show (wl.alloc (.cells #[.slice (some ⟨w1.heap.size, 0, none⟩) 0 0, .slice p2 zs.length q2] 27)).cell? ⟨wl.heap.size, 0, none⟩ = some ((.slice (some ⟨w1.heap.size, 0, none⟩) 0 0)) ∧ (wl.alloc (.cells #[.slice (some ⟨w1.heap.size, 0, none⟩) 0 0, .slice p2 zs.length q2] 27)).cell? ⟨wl.heap.size, 1, none⟩ = some ((.slice p2 zs.length q2)) ∧ (wl.alloc (.cells #[.slice (some ⟨w1.heap.size, 0, none⟩) 0 0, .slice p2 zs.length q2] 27)).frozen? ⟨wl.heap.size, 0, none⟩ = false ∧ (wl.alloc (.cells #[.slice (some ⟨w1.heap.size, 0, none⟩) 0 0, .slice p2 zs.length q2] 27)).frozen? ⟨wl.heap.size, 1, none⟩ = false from ⟨cell_new _ _ _ rfl rfl, cell_new _ _ _ rfl rfl, fro_new _ _ _ rfl, fro_new _ _ _ rfl⟩)
  have HO1 := Lib.hid (show Out w1.heap.size (wl.heap.size) (wl.alloc (.cells #[.slice (some ⟨w1.heap.size, 0, none⟩) 0 0, .slice p2 zs.length q2] 27)).heap.size (wl.alloc (.cells #[.slice (some ⟨w1.heap.size, 0, none⟩) 0 0, .slice p2 zs.length q2] 27)) (.slice (some ⟨w1.heap.size, 0, none⟩) 0 0) (.slice p2 zs.length q2) [] [] zs from
    ⟨HV1.out.alloc _, (fun g e => by (have h9 : w1.heap.size = g := by simpa [Value.ownBlock] using e); simp; omega), RowsOf.nil _ _ _,
      (ownsRow_base HL1.out.1 (fun g hg => Nat.le_trans (by simp) (HL1.out.lt hg).1)).alloc _,
      (fun g e => by have h9 := (HL1.out.lt e).2.1; simp; omega), fun g e hb => by obtain ⟨i, h9, _⟩ := hb; simp at h9⟩)
  have sI : wl.heap.size + 1 ≤ (wl.alloc (.cells #[.slice (some ⟨w1.heap.size, 0, none⟩) 0 0, .slice p2 zs.length q2] 27)).heap.size := by simp
  have HBW := HB2
  clear x0_0 x0_1 x1_0 x1_1 f1_0 f1_1 HV0 HV1 HL1 HA1
  have HBJ := Lib.hid (HBK.out.trans (HBI.out.mono (by omega)))
  go_loopw [7] (fun i wr => ∃ (k : Nat) (v l : Value) (cs : List Value), k ≤ rows.length ∧ i = .int .i64 k ∧ Hid (wr.cell? ⟨wl.heap.size, 0, none⟩ = some (v) ∧ wr.cell? ⟨wl.heap.size, 1, none⟩ = some (l) ∧ wr.frozen? ⟨wl.heap.size, 0, none⟩ = false ∧ wr.frozen? ⟨wl.heap.size, 1, none⟩ = false) ∧ Hid (Out w1.heap.size (wl.heap.size) wr.heap.size wr v l cs (pickM (mv ys) rows k) zs) ∧ Hid (Below w1.heap.size w1 wr) ∧ wl.heap.size + 1 ≤ wr.heap.size) (fun i _ => rows.length - (intOf i).toNat)
  case atStart => exact ⟨0, _, _, [], Nat.zero_le _, rfl, HY, HO1, HBJ, sI⟩
  case round =>
    obtain ⟨k, v, l, cs, hk', rfl, HC, HO, HBl, hsz⟩ := hrel
    clear sI HY HO1 HBJ HBI
    by_cases hlt : k < rows.length
    · obtain ⟨bl', off', rp, rq, hab, hbl', hc, hpq, hrow⟩ := (Hhr.out.below HBC.out).at hlt
      obtain ⟨rfl, rfl⟩ : bl = bl' ∧ off = off' := by cases hab; exact ⟨rfl, rfl⟩
      have y0 := HC.out.1
      have HSR := Lib.hid (pick_succ (mv ys) rows k hlt)
      have HRl := Lib.hid (pick_length (mv ys) rows k hk')
      have hf0 := HF.out k hlt
      have HROW := Lib.hid hrow
      have xh := cell_below HBl.out HX0.out (by omega)
      have xr := cell_below HBl.out hc (by omega)
      have HT0 := Lib.hid (show ∀ wa : World, (wa.cell? ⟨w.heap.size, 0, none⟩ = some (.slice (some ⟨bl, off, none⟩) rows.length c) ∧ wa.cell? ⟨bl, off + k, none⟩ = some (.slice rp (rows.getD k []).length rq) ∧ wr.heap.size ≤ wa.heap.size ∧ Below w1.heap.size w1 wa) → (wa.cell? ⟨wl.heap.size, 0, none⟩ = some (v) ∧ wa.cell? ⟨wl.heap.size, 1, none⟩ = some (l) ∧ wa.frozen? ⟨wl.heap.size, 0, none⟩ = false ∧ wa.frozen? ⟨wl.heap.size, 1, none⟩ = false) → (Out w1.heap.size (wl.heap.size) wr.heap.size wa v l cs (pickM (mv ys) rows k) zs) → Calls Try.prog 73 #[.slice rp (rows.getD k []).length rq, .slice p ys.length q] wa (fun e w' => ∃ (p1 : Option Addr) (q1 : Nat), e = .returned (.slice p1 ((mv ys) (rows.getD k [])).length q1) ∧ OwnI wr.heap.size w'.heap.size w' (.slice p1 ((mv ys) (rows.getD k [])).length q1) ((mv ys) (rows.getD k [])) ∧ (Out w1.heap.size (wl.heap.size) wr.heap.size w' v l cs (pickM (mv ys) rows k) zs) ∧ (w'.cell? ⟨wl.heap.size, 0, none⟩ = some (v) ∧ w'.cell? ⟨wl.heap.size, 1, none⟩ = some (l) ∧ w'.frozen? ⟨wl.heap.size, 0, none⟩ = false ∧ w'.frozen? ⟨wl.heap.size, 1, none⟩ = false) ∧ w'.cell? ⟨w.heap.size, 0, none⟩ = some (.slice (some ⟨bl, off, none⟩) rows.length c) ∧ w'.cell? ⟨bl, off + k, none⟩ = some (.slice rp (rows.getD k []).length rq) ∧ wr.heap.size ≤ w'.heap.size ∧ Below w1.heap.size w1 w') from fun wa hS hQ hO => by
        have hwz := hS.2.2.1
        have hB := hS.2.2.2
        refine (spec_added rp (rows.getD k []) rq p ys q wa (HROW.out.below hB) (Hhq.out.below (HBC.out.trans (hB.mono (by omega)))) hf0.1 (by omega) hf0.2.2 HY9.out).mono ?_
        rintro e w' ⟨v', rfl, ho, hb⟩
        obtain ⟨p1, q1, rfl, _, _, _⟩ := ho.slice
        exact ⟨p1, q1, rfl, ho.mono hwz (Nat.le_refl _), hO.below hb, ⟨cell_below hb hQ.1 (by omega), cell_below hb hQ.2.1 (by omega), fro_below hb hQ.2.2.1 (by omega), fro_below hb hQ.2.2.2 (by omega)⟩, cell_below hb hS.1 (by omega), cell_below hb hS.2.1 (by omega), Nat.le_trans hwz hb.size, hB.trans (hb.mono (by omega))⟩)
      generalize (mv ys) (rows.getD k []) = r2 at *
      generalize rows.getD k [] = r at *
      generalize pickM (mv ys) rows k = RR at *
      have i1 : (0 : Int) ≤ (k : Int) := by omega
      have i2 : (k : Int) < (rows.length : Int) := by omega
      clear hc hrow hpq hab hf0
      have HA5 := Lib.hid (show ∀ (W W3 : World) (o : Option Nat), (W.cell? ⟨w.heap.size, 0, none⟩ = some (.slice (some ⟨bl, off, none⟩) rows.length c) ∧ W.cell? ⟨bl, off + k, none⟩ = some (.slice rp r.length rq) ∧ wr.heap.size ≤ W.heap.size ∧ Below w1.heap.size w1 W) → W.grownBy W3 o → (∀ g, o = some g → w1.heap.size ≤ g ∧ g ≠ wl.heap.size) → (W3.cell? ⟨w.heap.size, 0, none⟩ = some (.slice (some ⟨bl, off, none⟩) rows.length c) ∧ W3.cell? ⟨bl, off + k, none⟩ = some (.slice rp r.length rq) ∧ wr.heap.size ≤ W3.heap.size ∧ Below w1.heap.size w1 W3) from fun W W3 o hS hg ho => by
        have nf : ∀ q, some q = o → q < w1.heap.size → False := fun q e h => by have := (ho q e.symm).1; omega
        exact ⟨hg.cell hS.1 (fun e => nf _ e (by simp; omega)), hg.cell hS.2.1 (fun e => nf _ e (by simp; omega)), Nat.le_trans hS.2.2.1 hg.size, hS.2.2.2.grown hg (by have := hS.2.2.1; omega) (fun g e => (ho g e).1)⟩)
      have HQ := Lib.hid (show ∀ (W W3 : World) (o : Option Nat) (v l : Value), (W.cell? ⟨wl.heap.size, 0, none⟩ = some (v) ∧ W.cell? ⟨wl.heap.size, 1, none⟩ = some (l) ∧ W.frozen? ⟨wl.heap.size, 0, none⟩ = false ∧ W.frozen? ⟨wl.heap.size, 1, none⟩ = false) → W.grownBy W3 o → (∀ g, o = some g → w1.heap.size ≤ g ∧ g ≠ wl.heap.size) → wl.heap.size < W.heap.size → (W3.cell? ⟨wl.heap.size, 0, none⟩ = some (v) ∧ W3.cell? ⟨wl.heap.size, 1, none⟩ = some (l) ∧ W3.frozen? ⟨wl.heap.size, 0, none⟩ = false ∧ W3.frozen? ⟨wl.heap.size, 1, none⟩ = false) from fun W W3 o v l hQ hg ho hB => by
        have nf : ∀ q, some q = o → q = wl.heap.size → False := fun q e h => (ho q e.symm).2 h
        exact ⟨hg.cell hQ.1 (fun e => nf _ e rfl), hg.cell hQ.2.1 (fun e => nf _ e rfl), (hg.frozen_far ⟨wl.heap.size, 0, none⟩ hB (fun e => nf _ e rfl)).trans hQ.2.2.1, (hg.frozen_far ⟨wl.heap.size, 1, none⟩ hB (fun e => nf _ e rfl)).trans hQ.2.2.2⟩)
      go_wp2_with fail
      refine wp_region_noPanic ?_
      refine wp_region_held_drew (S := fun w' => w'.cell? ⟨w.heap.size, 0, none⟩ = some (.slice (some ⟨bl, off, none⟩) rows.length c) ∧ w'.cell? ⟨bl, off + k, none⟩ = some (.slice rp r.length rq) ∧ wr.heap.size ≤ w'.heap.size ∧ Below w1.heap.size w1 w') (by kernel_rfl) ?_ (fun hHeld => ?_)
      · exact ⟨xh, xr, Nat.le_refl _, HBl.out.drew⟩
      refine wpAnyH_take (i := 0) (v := ?_) rfl (by kernel_rfl) (by kernel_rfl) (by kernel_rfl) (fun _ _ _ h => h) (Or.inl ⟨by rfl, ?_⟩) (by assumption) ?_
      rotate_left
      · intro w9 hSw; (try dsimp only at hSw); go_simp; try with_reducible rfl
      try simp only [List.getElem_toArray, List.getElem_cons_succ, List.getElem_cons_zero, Act.put, List.setIfInBounds_toArray, List.set_cons_zero, List.set_cons_succ]
      refine wpAnyH_take (i := 2) (v := ?_) rfl (by kernel_rfl) (by kernel_rfl) (by kernel_rfl) (fun _ _ _ h => h) (Or.inl ⟨by rfl, ?_⟩) (by assumption) ?_
      rotate_left
      · intro w9 hSw; (try dsimp only at hSw); go_simp; try with_reducible rfl
      try simp only [List.getElem_toArray, List.getElem_cons_succ, List.getElem_cons_zero, Act.put, List.setIfInBounds_toArray, List.set_cons_zero, List.set_cons_succ]
      refine wpAnyH_take (i := 3) (v := ?_) rfl (by kernel_rfl) (by kernel_rfl) (by kernel_rfl) (fun _ _ _ h => h) (Or.inl ⟨by rfl, ?_⟩) (by assumption) ?_
      rotate_left
      · intro w9 hSw; (try dsimp only at hSw); go_simp; try with_reducible rfl
      try simp only [List.getElem_toArray, List.getElem_cons_succ, List.getElem_cons_zero, Act.put, List.setIfInBounds_toArray, List.set_cons_zero, List.set_cons_succ]
      refine wpAnyH_take (i := 4) (v := ?_) rfl (by kernel_rfl) (by kernel_rfl) (by kernel_rfl) (fun _ _ _ h => h) (Or.inl ⟨by rfl, ?_⟩) (by assumption) ?_
      rotate_left
      · intro w9 hSw; (try dsimp only at hSw); go_simp; try with_reducible rfl
      try simp only [List.getElem_toArray, List.getElem_cons_succ, List.getElem_cons_zero, Act.put, List.setIfInBounds_toArray, List.set_cons_zero, List.set_cons_succ]
      refine wpAnyH_take (i := 5) (v := ?_) rfl (by kernel_rfl) (by kernel_rfl) (by kernel_rfl) (fun _ _ _ h => h) (Or.inl ⟨by rfl, ?_⟩) (by assumption) ?_
      rotate_left
      · intro w9 hSw; (try dsimp only at hSw); go_simp; try with_reducible rfl
      try simp only [List.getElem_toArray, List.getElem_cons_succ, List.getElem_cons_zero, Act.put, List.setIfInBounds_toArray, List.set_cons_zero, List.set_cons_succ]
      refine wpAnyH_take (i := 6) (v := ?_) rfl (by kernel_rfl) (by kernel_rfl) (by kernel_rfl) (fun _ _ _ h => h) (Or.inl ⟨by rfl, ?_⟩) (by assumption) ?_
      rotate_left
      · intro w9 hSw; (try dsimp only at hSw); go_simp; try with_reducible rfl
      try simp only [List.getElem_toArray, List.getElem_cons_succ, List.getElem_cons_zero, Act.put, List.setIfInBounds_toArray, List.set_cons_zero, List.set_cons_succ]
      refine wpAnyH_take (i := 7) (v := ?_) rfl (by kernel_rfl) (by kernel_rfl) (by kernel_rfl) (fun _ _ _ h => h) (Or.inl ⟨by rfl, ?_⟩) (by assumption) ?_
      rotate_left
      · intro w9 hSw; (try dsimp only at hSw); go_simp; try with_reducible rfl
      try simp only [List.getElem_toArray, List.getElem_cons_succ, List.getElem_cons_zero, Act.put, List.setIfInBounds_toArray, List.set_cons_zero, List.set_cons_succ]
      refine wpAnyH_ready (rs := [1, 8]) (by kernel_rfl) (by simp) ?_
      refine AllReadyH.cons rfl (fun K hK => ?_) ?_
      · go_simp
        refine hK.out _ _ ?_ (fun hHeld => ?_)
        · exact hHeld
        clear hK K
        try simp only [List.getElem_toArray, List.getElem_cons_succ, List.getElem_cons_zero, Act.put, List.setIfInBounds_toArray, List.set_cons_zero, List.set_cons_succ]
        refine wpAnyH_ready (rs := [8]) (by kernel_rfl) (by simp) ?_
        refine AllReadyH.cons rfl (fun K hK => ?_) ?_
        · go_simp
          refine Calls.mono (HT0.out _ ?_ ?_ ?_) ?_
          · exact hHeld
          · exact HC.out
          · exact HO.out.below (Below.refl _ _).drew
          rintro e va ⟨p1, q1, rfl, ho0, hO0, ⟨q0_0, q0_1, q0_2, q0_3⟩, hbx⟩
          have z0 : ∀ O, (va.alloc O).cell? ⟨wl.heap.size, 0, none⟩ = some v := fun O => cell_old O q0_0
          have hx1 := Lib.hid hbx
          have hO1 := Lib.hid hO0
          have ho1 := Lib.hid ho0
          clear hO0 ho0
          refine hK.out _ _ ?_ (fun hHeld => ?_)
          · exact hbx
          clear hK K
          try simp only [List.getElem_toArray, List.getElem_cons_succ, List.getElem_cons_zero, Act.put, List.setIfInBounds_toArray, List.set_cons_zero, List.set_cons_succ]
          refine wpAnyH_ready (rs := [9]) (by kernel_rfl) (by simp) ?_
          refine AllReadyH.cons rfl (fun K hK => ?_) ?_
          · go_simp
            refine hK.out _ _ ?_ (fun hHeld => ?_)
            · exact ⟨cell_old _ hbx.1, cell_old _ hbx.2.1, Nat.le_trans hbx.2.2.1 (by simp), hbx.2.2.2.alloc (by have := hbx.2.2.1; omega) _⟩
            clear hK K
            try simp only [List.getElem_toArray, List.getElem_cons_succ, List.getElem_cons_zero, Act.put, List.setIfInBounds_toArray, List.set_cons_zero, List.set_cons_succ]
            refine wpAnyH_ready (rs := [10]) (by kernel_rfl) (by simp) ?_
            refine AllReadyH.cons rfl (fun K hK => ?_) ?_
            · (refine step_append_lies _ (by rfl) _ _ _ (by rfl) w1.heap.size 23 i0 _ 1 24 Try.underlying22 hi hz0 hz1 hz2 rfl (by omega) v RR.length cs (by rfl) (hO1.out.1.alloc _) ⟨va.heap.size, 0, none⟩ 1 1 [.slice p1 r2.length q1] (by rfl) (by rfl) (World.news_of_block (cs := #[.slice p1 r2.length q1]) (t := 23) (fr := (0, 0)) (heap_alloc_new va _)) (by simp [Value.oneCell']) (by omega) (by have := HRl.out; unfold maxLen; omega) (by have := HRl.out; omega) (Nat.le_trans (by omega) (Nat.le_trans hx1.out.2.2.1 (by simp))) (va.heap.size + 1) (by simp) ?_)
              intro gg cap w3 hown1 hgrow hat hlt'
              have hv9 := fun g e => And.intro (hO1.out.1.lt g e).1 (hO1.out.2.1 g e).1
              have hO3 := Lib.hid (Out.row hO1.out ho1.out hx1.out.2.2.1 (by omega) hgrow hown1 hat hlt')
              obtain ⟨t0, t1, t2, t3⟩ := HQ.out _ _ _ _ _ ⟨cell_old _ q0_0, cell_old _ q0_1, fro_old _ (by have := hx1.out.2.2.1; omega) q0_2, fro_old _ (by have := hx1.out.2.2.1; omega) q0_3⟩ hgrow hv9 (by have := hx1.out.2.2.1; simp; omega)
              have hx3 := Lib.hid (HA5.out _ _ _ ⟨cell_old _ hx1.out.1, cell_old _ hx1.out.2.1, Nat.le_trans hx1.out.2.2.1 (by simp), hx1.out.2.2.2.alloc (by have := hx1.out.2.2.1; omega) _⟩ hgrow hv9)
              clear hown1 hgrow hat hv9
              refine hK.out _ _ ?_ (fun hHeld => ?_)
              · exact hx3.out
              clear hK K
              try simp only [List.getElem_toArray, List.getElem_cons_succ, List.getElem_cons_zero, Act.put, List.setIfInBounds_toArray, List.set_cons_zero, List.set_cons_succ]
              refine wpAnyH_take (i := 11) (v := ?_) rfl (by kernel_rfl) (by kernel_rfl) (by kernel_rfl) (fun _ _ _ h => h) (Or.inl ⟨by rfl, ?_⟩) (by assumption) ?_
              rotate_left
              · intro w9 hSw; (try dsimp only at hSw); go_simp; try with_reducible rfl
              try simp only [List.getElem_toArray, List.getElem_cons_succ, List.getElem_cons_zero, Act.put, List.setIfInBounds_toArray, List.set_cons_zero, List.set_cons_succ]
              refine wpAnyH_ready (rs := [12]) (by kernel_rfl) (by simp) ?_
              refine AllReadyH.cons rfl (fun K hK => ?_) ?_
              · go_simp
                refine hK.out _ _ ?_ (fun hHeld => ?_)
                · exact ⟨cell_set hx3.out.1 (by simp; omega) _, cell_set hx3.out.2.1 (by simp; omega) _, by rw [size_set]; exact hx3.out.2.2.1, hx3.out.2.2.2.setCell (by simp; omega) _⟩
                clear hK K
                try simp only [List.getElem_toArray, List.getElem_cons_succ, List.getElem_cons_zero, Act.put, List.setIfInBounds_toArray, List.set_cons_zero, List.set_cons_succ]
                refine wpAnyH_done (by kernel_rfl) ?_ _
                refine NoPanic.normal ?_
                have HO6 := Lib.hid (show Out w1.heap.size (wl.heap.size) (w3.setCell ⟨wl.heap.size, 0, none⟩ (Value.slice (some ⟨gg, 0, none⟩) (RR.length + 1) cap)).heap.size (w3.setCell ⟨wl.heap.size, 0, none⟩ (Value.slice (some ⟨gg, 0, none⟩) (RR.length + 1) cap)) (Value.slice (some ⟨gg, 0, none⟩) (RR.length + 1) cap) l (cs ++ [.slice p1 r2.length q1]) (RR ++ [r2]) zs from by rw [size_set]; exact hO3.out.set 0 _)
                have HY6 := Lib.hid (show (w3.setCell ⟨wl.heap.size, 0, none⟩ (Value.slice (some ⟨gg, 0, none⟩) (RR.length + 1) cap)).cell? ⟨wl.heap.size, 0, none⟩ = some ((Value.slice (some ⟨gg, 0, none⟩) (RR.length + 1) cap)) ∧ (w3.setCell ⟨wl.heap.size, 0, none⟩ (Value.slice (some ⟨gg, 0, none⟩) (RR.length + 1) cap)).cell? ⟨wl.heap.size, 1, none⟩ = some (l) ∧ (w3.setCell ⟨wl.heap.size, 0, none⟩ (Value.slice (some ⟨gg, 0, none⟩) (RR.length + 1) cap)).frozen? ⟨wl.heap.size, 0, none⟩ = false ∧ (w3.setCell ⟨wl.heap.size, 0, none⟩ (Value.slice (some ⟨gg, 0, none⟩) (RR.length + 1) cap)).frozen? ⟨wl.heap.size, 1, none⟩ = false from ⟨World.cell?_setCell_same _ _ _ t0, (World.cell?_setCell_other _ _ _ _ (by simp)).trans t1, by rw [World.frozen?_setCell]; exact t2, by rw [World.frozen?_setCell]; exact t3⟩)
                have hb6 := Lib.hid hHeld.2.2.2
                have hs6 : wl.heap.size + 1 ≤ (w3.setCell ⟨wl.heap.size, 0, none⟩ (Value.slice (some ⟨gg, 0, none⟩) (RR.length + 1) cap)).heap.size := by have := hHeld.2.2.1; omega
                clear hHeld t0 t1 t2 t3
                go_wp2_with fail
                go_roundw
                case rel => exact ⟨k + 1, _, _, _, by omega, by go_num, HY6, by rw [HSR.out]; exact HO6, hb6, hs6⟩
                case measure => simp [intOf]; omega
              exact AllReadyH.nil
            exact AllReadyH.nil
          exact AllReadyH.nil
        exact AllReadyH.nil
      refine AllReadyH.cons rfl (fun K hK => ?_) ?_
      · go_simp
        refine Calls.mono (HT0.out _ ?_ ?_ ?_) ?_
        · exact hHeld
        · exact HC.out
        · exact HO.out.below (Below.refl _ _).drew
        rintro e va ⟨p1, q1, rfl, ho0, hO0, ⟨q0_0, q0_1, q0_2, q0_3⟩, hbx⟩
        have z0 : ∀ O, (va.alloc O).cell? ⟨wl.heap.size, 0, none⟩ = some v := fun O => cell_old O q0_0
        have hx1 := Lib.hid hbx
        have hO1 := Lib.hid hO0
        have ho1 := Lib.hid ho0
        clear hO0 ho0
        refine hK.out _ _ ?_ (fun hHeld => ?_)
        · exact hbx
        clear hK K
        try simp only [List.getElem_toArray, List.getElem_cons_succ, List.getElem_cons_zero, Act.put, List.setIfInBounds_toArray, List.set_cons_zero, List.set_cons_succ]
        refine wpAnyH_ready (rs := [1, 9]) (by kernel_rfl) (by simp) ?_
        refine AllReadyH.cons rfl (fun K hK => ?_) ?_
        · go_simp
          refine hK.out _ _ ?_ (fun hHeld => ?_)
          · exact hHeld
          clear hK K
          try simp only [List.getElem_toArray, List.getElem_cons_succ, List.getElem_cons_zero, Act.put, List.setIfInBounds_toArray, List.set_cons_zero, List.set_cons_succ]
          refine wpAnyH_ready (rs := [9]) (by kernel_rfl) (by simp) ?_
          refine AllReadyH.cons rfl (fun K hK => ?_) ?_
          · go_simp
            refine hK.out _ _ ?_ (fun hHeld => ?_)
            · exact ⟨cell_old _ hbx.1, cell_old _ hbx.2.1, Nat.le_trans hbx.2.2.1 (by simp), hbx.2.2.2.alloc (by have := hbx.2.2.1; omega) _⟩
            clear hK K
            try simp only [List.getElem_toArray, List.getElem_cons_succ, List.getElem_cons_zero, Act.put, List.setIfInBounds_toArray, List.set_cons_zero, List.set_cons_succ]
            refine wpAnyH_ready (rs := [10]) (by kernel_rfl) (by simp) ?_
            refine AllReadyH.cons rfl (fun K hK => ?_) ?_
            · (refine step_append_lies _ (by rfl) _ _ _ (by rfl) w1.heap.size 23 i0 _ 1 24 Try.underlying22 hi hz0 hz1 hz2 rfl (by omega) v RR.length cs (by rfl) (hO1.out.1.alloc _) ⟨va.heap.size, 0, none⟩ 1 1 [.slice p1 r2.length q1] (by rfl) (by rfl) (World.news_of_block (cs := #[.slice p1 r2.length q1]) (t := 23) (fr := (0, 0)) (heap_alloc_new va _)) (by simp [Value.oneCell']) (by omega) (by have := HRl.out; unfold maxLen; omega) (by have := HRl.out; omega) (Nat.le_trans (by omega) (Nat.le_trans hx1.out.2.2.1 (by simp))) (va.heap.size + 1) (by simp) ?_)
              intro gg cap w3 hown1 hgrow hat hlt'
              have hv9 := fun g e => And.intro (hO1.out.1.lt g e).1 (hO1.out.2.1 g e).1
              have hO3 := Lib.hid (Out.row hO1.out ho1.out hx1.out.2.2.1 (by omega) hgrow hown1 hat hlt')
              obtain ⟨t0, t1, t2, t3⟩ := HQ.out _ _ _ _ _ ⟨cell_old _ q0_0, cell_old _ q0_1, fro_old _ (by have := hx1.out.2.2.1; omega) q0_2, fro_old _ (by have := hx1.out.2.2.1; omega) q0_3⟩ hgrow hv9 (by have := hx1.out.2.2.1; simp; omega)
              have hx3 := Lib.hid (HA5.out _ _ _ ⟨cell_old _ hx1.out.1, cell_old _ hx1.out.2.1, Nat.le_trans hx1.out.2.2.1 (by simp), hx1.out.2.2.2.alloc (by have := hx1.out.2.2.1; omega) _⟩ hgrow hv9)
              clear hown1 hgrow hat hv9
              refine hK.out _ _ ?_ (fun hHeld => ?_)
              · exact hx3.out
              clear hK K
              try simp only [List.getElem_toArray, List.getElem_cons_succ, List.getElem_cons_zero, Act.put, List.setIfInBounds_toArray, List.set_cons_zero, List.set_cons_succ]
              refine wpAnyH_take (i := 11) (v := ?_) rfl (by kernel_rfl) (by kernel_rfl) (by kernel_rfl) (fun _ _ _ h => h) (Or.inl ⟨by rfl, ?_⟩) (by assumption) ?_
              rotate_left
              · intro w9 hSw; (try dsimp only at hSw); go_simp; try with_reducible rfl
              try simp only [List.getElem_toArray, List.getElem_cons_succ, List.getElem_cons_zero, Act.put, List.setIfInBounds_toArray, List.set_cons_zero, List.set_cons_succ]
              refine wpAnyH_ready (rs := [12]) (by kernel_rfl) (by simp) ?_
              refine AllReadyH.cons rfl (fun K hK => ?_) ?_
              · go_simp
                refine hK.out _ _ ?_ (fun hHeld => ?_)
                · exact ⟨cell_set hx3.out.1 (by simp; omega) _, cell_set hx3.out.2.1 (by simp; omega) _, by rw [size_set]; exact hx3.out.2.2.1, hx3.out.2.2.2.setCell (by simp; omega) _⟩
                clear hK K
                try simp only [List.getElem_toArray, List.getElem_cons_succ, List.getElem_cons_zero, Act.put, List.setIfInBounds_toArray, List.set_cons_zero, List.set_cons_succ]
                refine wpAnyH_done (by kernel_rfl) ?_ _
                refine NoPanic.normal ?_
                have HO6 := Lib.hid (show Out w1.heap.size (wl.heap.size) (w3.setCell ⟨wl.heap.size, 0, none⟩ (Value.slice (some ⟨gg, 0, none⟩) (RR.length + 1) cap)).heap.size (w3.setCell ⟨wl.heap.size, 0, none⟩ (Value.slice (some ⟨gg, 0, none⟩) (RR.length + 1) cap)) (Value.slice (some ⟨gg, 0, none⟩) (RR.length + 1) cap) l (cs ++ [.slice p1 r2.length q1]) (RR ++ [r2]) zs from by rw [size_set]; exact hO3.out.set 0 _)
                have HY6 := Lib.hid (show (w3.setCell ⟨wl.heap.size, 0, none⟩ (Value.slice (some ⟨gg, 0, none⟩) (RR.length + 1) cap)).cell? ⟨wl.heap.size, 0, none⟩ = some ((Value.slice (some ⟨gg, 0, none⟩) (RR.length + 1) cap)) ∧ (w3.setCell ⟨wl.heap.size, 0, none⟩ (Value.slice (some ⟨gg, 0, none⟩) (RR.length + 1) cap)).cell? ⟨wl.heap.size, 1, none⟩ = some (l) ∧ (w3.setCell ⟨wl.heap.size, 0, none⟩ (Value.slice (some ⟨gg, 0, none⟩) (RR.length + 1) cap)).frozen? ⟨wl.heap.size, 0, none⟩ = false ∧ (w3.setCell ⟨wl.heap.size, 0, none⟩ (Value.slice (some ⟨gg, 0, none⟩) (RR.length + 1) cap)).frozen? ⟨wl.heap.size, 1, none⟩ = false from ⟨World.cell?_setCell_same _ _ _ t0, (World.cell?_setCell_other _ _ _ _ (by simp)).trans t1, by rw [World.frozen?_setCell]; exact t2, by rw [World.frozen?_setCell]; exact t3⟩)
                have hb6 := Lib.hid hHeld.2.2.2
                have hs6 : wl.heap.size + 1 ≤ (w3.setCell ⟨wl.heap.size, 0, none⟩ (Value.slice (some ⟨gg, 0, none⟩) (RR.length + 1) cap)).heap.size := by have := hHeld.2.2.1; omega
                clear hHeld t0 t1 t2 t3
                go_wp2_with fail
                go_roundw
                case rel => exact ⟨k + 1, _, _, _, by omega, by go_num, HY6, by rw [HSR.out]; exact HO6, hb6, hs6⟩
                case measure => simp [intOf]; omega
              exact AllReadyH.nil
            exact AllReadyH.nil
          exact AllReadyH.nil
        refine AllReadyH.cons rfl (fun K hK => ?_) ?_
        · go_simp
          refine hK.out _ _ ?_ (fun hHeld => ?_)
          · exact ⟨cell_old _ hbx.1, cell_old _ hbx.2.1, Nat.le_trans hbx.2.2.1 (by simp), hbx.2.2.2.alloc (by have := hbx.2.2.1; omega) _⟩
          clear hK K
          try simp only [List.getElem_toArray, List.getElem_cons_succ, List.getElem_cons_zero, Act.put, List.setIfInBounds_toArray, List.set_cons_zero, List.set_cons_succ]
          refine wpAnyH_ready (rs := [1]) (by kernel_rfl) (by simp) ?_
          refine AllReadyH.cons rfl (fun K hK => ?_) ?_
          · go_simp
            refine hK.out _ _ ?_ (fun hHeld => ?_)
            · exact hHeld
            clear hK K
            try simp only [List.getElem_toArray, List.getElem_cons_succ, List.getElem_cons_zero, Act.put, List.setIfInBounds_toArray, List.set_cons_zero, List.set_cons_succ]
            refine wpAnyH_ready (rs := [10]) (by kernel_rfl) (by simp) ?_
            refine AllReadyH.cons rfl (fun K hK => ?_) ?_
            · (refine step_append_lies _ (by rfl) _ _ _ (by rfl) w1.heap.size 23 i0 _ 1 24 Try.underlying22 hi hz0 hz1 hz2 rfl (by omega) v RR.length cs (by rfl) (hO1.out.1.alloc _) ⟨va.heap.size, 0, none⟩ 1 1 [.slice p1 r2.length q1] (by rfl) (by rfl) (World.news_of_block (cs := #[.slice p1 r2.length q1]) (t := 23) (fr := (0, 0)) (heap_alloc_new va _)) (by simp [Value.oneCell']) (by omega) (by have := HRl.out; unfold maxLen; omega) (by have := HRl.out; omega) (Nat.le_trans (by omega) (Nat.le_trans hx1.out.2.2.1 (by simp))) (va.heap.size + 1) (by simp) ?_)
              intro gg cap w3 hown1 hgrow hat hlt'
              have hv9 := fun g e => And.intro (hO1.out.1.lt g e).1 (hO1.out.2.1 g e).1
              have hO3 := Lib.hid (Out.row hO1.out ho1.out hx1.out.2.2.1 (by omega) hgrow hown1 hat hlt')
              obtain ⟨t0, t1, t2, t3⟩ := HQ.out _ _ _ _ _ ⟨cell_old _ q0_0, cell_old _ q0_1, fro_old _ (by have := hx1.out.2.2.1; omega) q0_2, fro_old _ (by have := hx1.out.2.2.1; omega) q0_3⟩ hgrow hv9 (by have := hx1.out.2.2.1; simp; omega)
              have hx3 := Lib.hid (HA5.out _ _ _ ⟨cell_old _ hx1.out.1, cell_old _ hx1.out.2.1, Nat.le_trans hx1.out.2.2.1 (by simp), hx1.out.2.2.2.alloc (by have := hx1.out.2.2.1; omega) _⟩ hgrow hv9)
              clear hown1 hgrow hat hv9
              refine hK.out _ _ ?_ (fun hHeld => ?_)
              · exact hx3.out
              clear hK K
              try simp only [List.getElem_toArray, List.getElem_cons_succ, List.getElem_cons_zero, Act.put, List.setIfInBounds_toArray, List.set_cons_zero, List.set_cons_succ]
              refine wpAnyH_take (i := 11) (v := ?_) rfl (by kernel_rfl) (by kernel_rfl) (by kernel_rfl) (fun _ _ _ h => h) (Or.inl ⟨by rfl, ?_⟩) (by assumption) ?_
              rotate_left
              · intro w9 hSw; (try dsimp only at hSw); go_simp; try with_reducible rfl
              try simp only [List.getElem_toArray, List.getElem_cons_succ, List.getElem_cons_zero, Act.put, List.setIfInBounds_toArray, List.set_cons_zero, List.set_cons_succ]
              refine wpAnyH_ready (rs := [12]) (by kernel_rfl) (by simp) ?_
              refine AllReadyH.cons rfl (fun K hK => ?_) ?_
              · go_simp
                refine hK.out _ _ ?_ (fun hHeld => ?_)
                · exact ⟨cell_set hx3.out.1 (by simp; omega) _, cell_set hx3.out.2.1 (by simp; omega) _, by rw [size_set]; exact hx3.out.2.2.1, hx3.out.2.2.2.setCell (by simp; omega) _⟩
                clear hK K
                try simp only [List.getElem_toArray, List.getElem_cons_succ, List.getElem_cons_zero, Act.put, List.setIfInBounds_toArray, List.set_cons_zero, List.set_cons_succ]
                refine wpAnyH_done (by kernel_rfl) ?_ _
                refine NoPanic.normal ?_
                have HO6 := Lib.hid (show Out w1.heap.size (wl.heap.size) (w3.setCell ⟨wl.heap.size, 0, none⟩ (Value.slice (some ⟨gg, 0, none⟩) (RR.length + 1) cap)).heap.size (w3.setCell ⟨wl.heap.size, 0, none⟩ (Value.slice (some ⟨gg, 0, none⟩) (RR.length + 1) cap)) (Value.slice (some ⟨gg, 0, none⟩) (RR.length + 1) cap) l (cs ++ [.slice p1 r2.length q1]) (RR ++ [r2]) zs from by rw [size_set]; exact hO3.out.set 0 _)
                have HY6 := Lib.hid (show (w3.setCell ⟨wl.heap.size, 0, none⟩ (Value.slice (some ⟨gg, 0, none⟩) (RR.length + 1) cap)).cell? ⟨wl.heap.size, 0, none⟩ = some ((Value.slice (some ⟨gg, 0, none⟩) (RR.length + 1) cap)) ∧ (w3.setCell ⟨wl.heap.size, 0, none⟩ (Value.slice (some ⟨gg, 0, none⟩) (RR.length + 1) cap)).cell? ⟨wl.heap.size, 1, none⟩ = some (l) ∧ (w3.setCell ⟨wl.heap.size, 0, none⟩ (Value.slice (some ⟨gg, 0, none⟩) (RR.length + 1) cap)).frozen? ⟨wl.heap.size, 0, none⟩ = false ∧ (w3.setCell ⟨wl.heap.size, 0, none⟩ (Value.slice (some ⟨gg, 0, none⟩) (RR.length + 1) cap)).frozen? ⟨wl.heap.size, 1, none⟩ = false from ⟨World.cell?_setCell_same _ _ _ t0, (World.cell?_setCell_other _ _ _ _ (by simp)).trans t1, by rw [World.frozen?_setCell]; exact t2, by rw [World.frozen?_setCell]; exact t3⟩)
                have hb6 := Lib.hid hHeld.2.2.2
                have hs6 : wl.heap.size + 1 ≤ (w3.setCell ⟨wl.heap.size, 0, none⟩ (Value.slice (some ⟨gg, 0, none⟩) (RR.length + 1) cap)).heap.size := by have := hHeld.2.2.1; omega
                clear hHeld t0 t1 t2 t3
                go_wp2_with fail
                go_roundw
                case rel => exact ⟨k + 1, _, _, _, by omega, by go_num, HY6, by rw [HSR.out]; exact HO6, hb6, hs6⟩
                case measure => simp [intOf]; omega
              exact AllReadyH.nil
            exact AllReadyH.nil
          exact AllReadyH.nil
        exact AllReadyH.nil
      exact AllReadyH.nil
    · obtain rfl : k = rows.length := by omega
      have HS := Lib.hid (HO.out.toS (by omega))
      obtain ⟨y0, y1, _, _⟩ := HC.out
      have x1_0 := cell_below HBl.out HX1.out.1 (by omega)
      have x1_1 := cell_below HBl.out HX1.out.2.1 (by omega)
      have f1_0 := fro_below HBl.out HX1.out.2.2.1 (by omega)
      have f1_1 := fro_below HBl.out HX1.out.2.2.2 (by omega)
      have xh := cell_below HBl.out HX0.out (by omega)
      have HBE := Lib.hid (HBC.out.trans (HBl.out.mono (by omega)))
      have hs9 := HBl.out.size
      rw [pick_all] at HS
      have HML := Lib.hid (show (∀ r ∈ rows.map (mv ys), r.length ≤ 1048576) ∧ (rows.map (mv ys)).length ≤ 1048576 from ⟨map_len (fun k hk => by rw [show (mv ys (rows.getD k [])).length = (rows.getD k []).length from plus_length _ _ _]; have := (HF.out k hk).2.1; omega), by rw [List.length_map]; omega⟩)
      generalize rows.map (mv ys) = RM at *
      obtain ⟨p1, q1, rfl, _, _, _⟩ := HS.out.grid.slice
      obtain ⟨p3, q3, rfl, _, _, _⟩ := HS.out.ints.slice
      have HKP := Lib.hid (show Calls Try.prog 74 #[.agg #[.slice p1 (RM).length q1, .slice p3 zs.length q3]] wr (fun e w' => e = .returned (.tuple #[.agg #[.slice p1 RM.length q1, .slice p3 zs.length q3], .bool true]) ∧ Below wr.heap.size wr w') from skept.spec_yes p1 (RM) q1 p3 zs q3 wr HS.out.grid.reads HS.out.ints.reads HML.out.2 hk HML.out.1 h)
      go_wp2_with fail
      refine HKP.out.mono ?_
      rintro e w5 ⟨rfl, hb⟩
      replace x1_0 := cell_below hb x1_0 (by omega)
      replace x1_1 := cell_below hb x1_1 (by omega)
      replace f1_0 := fro_below hb f1_0 (by omega)
      replace f1_1 := fro_below hb f1_1 (by omega)
      have HB5 := Lib.hid (HBE.out.trans (hb.mono (by omega)))
      have HS5 := Lib.hid (HS.out.below hb)
      have hs5 := hb.size
      clear hb
      go_wp2_with fail
      refine bodyPost_ret (v := .tuple #[.agg #[.slice p1 RM.length q1, .slice p3 zs.length q3], .bool true]) (by simp [results, Try.results16, go_sem, x1_0, x1_1]) rfl ⟨_, _, rfl, ?_, ?_⟩
      · simp only [size_set]; exact ((HS5.out.set (by simp; omega) _).set (by simp; omega) _).mono (by omega) hs5
      · exact (HB5.out.setCell (by simp) _).setCell (by simp) _
end Go.Proofs.Ytocbklmkphgkeaa.moves
