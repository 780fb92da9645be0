/- The walks of the model's and the program's StepPerceptron. -/
import Derived.Test.YtocbklmkphgkeaaStep
import Derived.Test.YtocbklmkphgkeaaHas
import Derived.Test.YtocbklmkphgkeaaKept
import Derived.Test.YtocbklmkphgkeaaOnes
import Derived.Test.YtocbklmkphgkeaaSamplesV
import Derived.Test.YtocbklmkphgkeaaRets
namespace Go.Proofs.Ytocbklmkphgkeaa.stepperc
open Go.RowKit own own1 pp nums dots fill step has kept ones planes samplesv
set_option linter.unusedVariables false
set_option linter.unusedSimpArgs false
attribute [local go_sem ↓] Go.wp_at_zero Go.wp_at_succ

theorem fro_old {w : World} (O : Obj) {b o : Nat} (hb : b < w.heap.size) (hx : w.frozen? ⟨b, o, none⟩ = false) : (w.alloc O).frozen? ⟨b, o, none⟩ = false := fro_below (below_alloc w O) hx hb
theorem lit2 (w : World) (x y : Int) : ints.Reads .i64 (w.alloc (.cells #[.int .i64 x, .int .i64 y] 3)) (some ⟨w.heap.size, 0, none⟩) [x, y] :=
  .inr ⟨w.heap.size, 0, rfl, by simp, fun i hi => by
    rcases i with _ | _ | i
    · exact cell_new _ _ _ rfl rfl
    · exact cell_new _ _ _ rfl rfl
    · simp only [List.length_cons, List.length_nil] at hi; omega⟩
theorem has_label (y : Int) : hasB [1, -1] y = labelB y := by
  unfold hasB labelB
  by_cases h1 : y = 1
  · subst h1; rfl
  · by_cases h2 : y = -1
    · subst h2; rfl
    · simp [h1, h2]
/-- What a step asks for, and whether its plane is one. -/
theorem st_same {ws : List Int} {b : Int} {xs : List Int} {y : Int} (h : side ws b xs = y) : stW ws b xs y = ws ∧ stV ws b xs y = b := ⟨if_pos h, if_pos h⟩
theorem st_turn {ws : List Int} {b : Int} {xs : List Int} {y : Int} (h : side ws b xs ≠ y) : stW ws b xs y = added ws xs y ∧ stV ws b xs y = b - y := ⟨if_neg h, if_neg h⟩
set_option maxRecDepth 100000 in
set_option maxHeartbeats 4000000 in
theorem spec_no1 (p : Option Addr) (ws : List Int) (q : Nat) (b : Int) (a : Option Addr) (xs : List Int) (c : Nat) (y : Int) (w : World) (hp : ints.Reads .i64 w p ws) (hx : ints.Reads .i64 w a xs) (hn : ws.length ≤ 1048576) (hm : xs.length ≤ 1048576) (h : Hid (planeB ws b = false)) :
    Calls Try.prog 46 #[.agg #[.slice p ws.length q, .int .i64 b], .slice a xs.length c, .int .i64 y] w (RetPBB [] 0 false false w) := by
  have Hhp := Lib.hid hp
  have Hhx := Lib.hid hx
  clear hp hx
  go_enter Try.func46, Try.ntmps46
  go_wp2_with fail
  have x0_0 : (w.alloc (.cells #[.slice p ws.length q, .int .i64 b] 46)).cell? ⟨w.heap.size, 0, none⟩ = some (.slice p ws.length q) := cell_new _ _ _ (by simp) rfl
  have x0_1 : (w.alloc (.cells #[.slice p ws.length q, .int .i64 b] 46)).cell? ⟨w.heap.size, 1, none⟩ = some (.int .i64 b) := cell_new _ _ _ (by simp) rfl
  have HB0 := Lib.hid (below_alloc w (.cells #[.slice p ws.length q, .int .i64 b] 46))
  replace x0_0 := cell_old (.cells #[.slice none 0 0, .int .i64 0] 46) x0_0
  replace x0_1 := cell_old (.cells #[.slice none 0 0, .int .i64 0] 46) x0_1
  have x1_0 : ((w.alloc (.cells #[.slice p ws.length q, .int .i64 b] 46)).alloc (.cells #[.slice none 0 0, .int .i64 0] 46)).cell? ⟨w.heap.size + 1, 0, none⟩ = some (.slice none 0 0) := cell_new _ _ _ (by simp) rfl
  have x1_1 : ((w.alloc (.cells #[.slice p ws.length q, .int .i64 b] 46)).alloc (.cells #[.slice none 0 0, .int .i64 0] 46)).cell? ⟨w.heap.size + 1, 1, none⟩ = some (.int .i64 0) := cell_new _ _ _ (by simp) rfl
  have f1_0 : ((w.alloc (.cells #[.slice p ws.length q, .int .i64 b] 46)).alloc (.cells #[.slice none 0 0, .int .i64 0] 46)).frozen? ⟨w.heap.size + 1, 0, none⟩ = false := fro_new _ _ _ (by simp)
  have f1_1 : ((w.alloc (.cells #[.slice p ws.length q, .int .i64 b] 46)).alloc (.cells #[.slice none 0 0, .int .i64 0] 46)).frozen? ⟨w.heap.size + 1, 1, none⟩ = false := fro_new _ _ _ (by simp)
  replace HB0 := Lib.hid (HB0.out.alloc (by simp) (.cells #[.slice none 0 0, .int .i64 0] 46))
  have s0 : w.heap.size + 2 ≤ ((w.alloc (.cells #[.slice p ws.length q, .int .i64 b] 46)).alloc (.cells #[.slice none 0 0, .int .i64 0] 46)).heap.size := by simp
  generalize hw : ((w.alloc (.cells #[.slice p ws.length q, .int .i64 b] 46)).alloc (.cells #[.slice none 0 0, .int .i64 0] 46)) = w0 at *
  clear hw
  have n0_0 : w.heap.size < w0.heap.size := by omega
  have n0_1 : w.heap.size + 1 < w0.heap.size := by omega
  refine (spec_plane p ws q (b) _ (Hhp.out.below HB0.out) hn false h).mono ?_
  rintro e w1 ⟨rfl, hb⟩
  have s1 : w0.heap.size ≤ w1.heap.size := hb.size
  have n1_0 : w.heap.size < w1.heap.size := by omega
  have n1_1 : w.heap.size + 1 < w1.heap.size := by omega
  replace x0_0 := cell_below hb x0_0 (by omega)
  replace x0_1 := cell_below hb x0_1 (by omega)
  replace x1_0 := cell_below hb x1_0 (by omega)
  replace x1_1 := cell_below hb x1_1 (by omega)
  replace f1_0 := fro_below hb f1_0 (by omega)
  replace f1_1 := fro_below hb f1_1 (by omega)
  have HB1 := Lib.hid (HB0.out.trans (hb.mono (by omega)))
  clear hb
  go_wp2_with fail
  refine bodyPost_ret (v := .tuple #[.agg #[.slice none 0 0, .int .i64 0], .bool false, .bool false]) (by simp [results, Try.results46, go_sem, x1_0, x1_1]) rfl ⟨_, rfl, OwnI.nil _ _ _, ?_⟩
  first | exact ((HB1.out.setCell (by simp) _).setCell (by simp) _) | exact HB1.out
set_option maxRecDepth 100000 in
set_option maxHeartbeats 4000000 in
theorem spec_no2 (p : Option Addr) (ws : List Int) (q : Nat) (b : Int) (a : Option Addr) (xs : List Int) (c : Nat) (y : Int) (w : World) (hp : ints.Reads .i64 w p ws) (hx : ints.Reads .i64 w a xs) (hn : ws.length ≤ 1048576) (hm : xs.length ≤ 1048576) (h1 : Hid (planeB ws b = true)) (h : Hid (oneB ws b xs = false)) :
    Calls Try.prog 46 #[.agg #[.slice p ws.length q, .int .i64 b], .slice a xs.length c, .int .i64 y] w (RetPBB [] 0 false false w) := by
  have Hhp := Lib.hid hp
  have Hhx := Lib.hid hx
  clear hp hx
  go_enter Try.func46, Try.ntmps46
  go_wp2_with fail
  have x0_0 : (w.alloc (.cells #[.slice p ws.length q, .int .i64 b] 46)).cell? ⟨w.heap.size, 0, none⟩ = some (.slice p ws.length q) := cell_new _ _ _ (by simp) rfl
  have x0_1 : (w.alloc (.cells #[.slice p ws.length q, .int .i64 b] 46)).cell? ⟨w.heap.size, 1, none⟩ = some (.int .i64 b) := cell_new _ _ _ (by simp) rfl
  have HB0 := Lib.hid (below_alloc w (.cells #[.slice p ws.length q, .int .i64 b] 46))
  replace x0_0 := cell_old (.cells #[.slice none 0 0, .int .i64 0] 46) x0_0
  replace x0_1 := cell_old (.cells #[.slice none 0 0, .int .i64 0] 46) x0_1
  have x1_0 : ((w.alloc (.cells #[.slice p ws.length q, .int .i64 b] 46)).alloc (.cells #[.slice none 0 0, .int .i64 0] 46)).cell? ⟨w.heap.size + 1, 0, none⟩ = some (.slice none 0 0) := cell_new _ _ _ (by simp) rfl
  have x1_1 : ((w.alloc (.cells #[.slice p ws.length q, .int .i64 b] 46)).alloc (.cells #[.slice none 0 0, .int .i64 0] 46)).cell? ⟨w.heap.size + 1, 1, none⟩ = some (.int .i64 0) := cell_new _ _ _ (by simp) rfl
  have f1_0 : ((w.alloc (.cells #[.slice p ws.length q, .int .i64 b] 46)).alloc (.cells #[.slice none 0 0, .int .i64 0] 46)).frozen? ⟨w.heap.size + 1, 0, none⟩ = false := fro_new _ _ _ (by simp)
  have f1_1 : ((w.alloc (.cells #[.slice p ws.length q, .int .i64 b] 46)).alloc (.cells #[.slice none 0 0, .int .i64 0] 46)).frozen? ⟨w.heap.size + 1, 1, none⟩ = false := fro_new _ _ _ (by simp)
  replace HB0 := Lib.hid (HB0.out.alloc (by simp) (.cells #[.slice none 0 0, .int .i64 0] 46))
  have s0 : w.heap.size + 2 ≤ ((w.alloc (.cells #[.slice p ws.length q, .int .i64 b] 46)).alloc (.cells #[.slice none 0 0, .int .i64 0] 46)).heap.size := by simp
  generalize hw : ((w.alloc (.cells #[.slice p ws.length q, .int .i64 b] 46)).alloc (.cells #[.slice none 0 0, .int .i64 0] 46)) = w0 at *
  clear hw
  have n0_0 : w.heap.size < w0.heap.size := by omega
  have n0_1 : w.heap.size + 1 < w0.heap.size := by omega
  refine (spec_plane p ws q (b) _ (Hhp.out.below HB0.out) hn true h1).mono ?_
  rintro e w1 ⟨rfl, hb⟩
  have s1 : w0.heap.size ≤ w1.heap.size := hb.size
  have n1_0 : w.heap.size < w1.heap.size := by omega
  have n1_1 : w.heap.size + 1 < w1.heap.size := by omega
  replace x0_0 := cell_below hb x0_0 (by omega)
  replace x0_1 := cell_below hb x0_1 (by omega)
  replace x1_0 := cell_below hb x1_0 (by omega)
  replace x1_1 := cell_below hb x1_1 (by omega)
  replace f1_0 := fro_below hb f1_0 (by omega)
  replace f1_1 := fro_below hb f1_1 (by omega)
  have HB1 := Lib.hid (HB0.out.trans (hb.mono (by omega)))
  clear hb
  go_wp2_with fail
  refine (spec_one p ws q b a xs c _ (Hhp.out.below HB1.out) (Hhx.out.below HB1.out) hn hm false h).mono ?_
  rintro e w2 ⟨rfl, hb⟩
  have s2 : w1.heap.size ≤ w2.heap.size := hb.size
  have n2_0 : w.heap.size < w2.heap.size := by omega
  have n2_1 : w.heap.size + 1 < w2.heap.size := by omega
  replace x0_0 := cell_below hb x0_0 (by omega)
  replace x0_1 := cell_below hb x0_1 (by omega)
  replace x1_0 := cell_below hb x1_0 (by omega)
  replace x1_1 := cell_below hb x1_1 (by omega)
  replace f1_0 := fro_below hb f1_0 (by omega)
  replace f1_1 := fro_below hb f1_1 (by omega)
  have HB2 := Lib.hid (HB1.out.trans (hb.mono (by omega)))
  clear hb
  go_wp2_with fail
  refine bodyPost_ret (v := .tuple #[.agg #[.slice none 0 0, .int .i64 0], .bool false, .bool false]) (by simp [results, Try.results46, go_sem, x1_0, x1_1]) rfl ⟨_, rfl, OwnI.nil _ _ _, ?_⟩
  first | exact ((HB2.out.setCell (by simp) _).setCell (by simp) _) | exact HB2.out
set_option maxRecDepth 100000 in
set_option maxHeartbeats 4000000 in
theorem spec_no3 (p : Option Addr) (ws : List Int) (q : Nat) (b : Int) (a : Option Addr) (xs : List Int) (c : Nat) (y : Int) (w : World) (hp : ints.Reads .i64 w p ws) (hx : ints.Reads .i64 w a xs) (hn : ws.length ≤ 1048576) (hm : xs.length ≤ 1048576) (h1 : Hid (planeB ws b = true)) (h2 : Hid (oneB ws b xs = true)) (h : Hid (labelB y = false)) :
    Calls Try.prog 46 #[.agg #[.slice p ws.length q, .int .i64 b], .slice a xs.length c, .int .i64 y] w (RetPBB [] 0 false false w) := by
  have HY : Hid (hasB [1, -1] y = false) := Lib.hid ((has_label y).trans h.out)
  have Hhp := Lib.hid hp
  have Hhx := Lib.hid hx
  clear hp hx
  go_enter Try.func46, Try.ntmps46
  go_wp2_with fail
  have x0_0 : (w.alloc (.cells #[.slice p ws.length q, .int .i64 b] 46)).cell? ⟨w.heap.size, 0, none⟩ = some (.slice p ws.length q) := cell_new _ _ _ (by simp) rfl
  have x0_1 : (w.alloc (.cells #[.slice p ws.length q, .int .i64 b] 46)).cell? ⟨w.heap.size, 1, none⟩ = some (.int .i64 b) := cell_new _ _ _ (by simp) rfl
  have HB0 := Lib.hid (below_alloc w (.cells #[.slice p ws.length q, .int .i64 b] 46))
  replace x0_0 := cell_old (.cells #[.slice none 0 0, .int .i64 0] 46) x0_0
  replace x0_1 := cell_old (.cells #[.slice none 0 0, .int .i64 0] 46) x0_1
  have x1_0 : ((w.alloc (.cells #[.slice p ws.length q, .int .i64 b] 46)).alloc (.cells #[.slice none 0 0, .int .i64 0] 46)).cell? ⟨w.heap.size + 1, 0, none⟩ = some (.slice none 0 0) := cell_new _ _ _ (by simp) rfl
  have x1_1 : ((w.alloc (.cells #[.slice p ws.length q, .int .i64 b] 46)).alloc (.cells #[.slice none 0 0, .int .i64 0] 46)).cell? ⟨w.heap.size + 1, 1, none⟩ = some (.int .i64 0) := cell_new _ _ _ (by simp) rfl
  have f1_0 : ((w.alloc (.cells #[.slice p ws.length q, .int .i64 b] 46)).alloc (.cells #[.slice none 0 0, .int .i64 0] 46)).frozen? ⟨w.heap.size + 1, 0, none⟩ = false := fro_new _ _ _ (by simp)
  have f1_1 : ((w.alloc (.cells #[.slice p ws.length q, .int .i64 b] 46)).alloc (.cells #[.slice none 0 0, .int .i64 0] 46)).frozen? ⟨w.heap.size + 1, 1, none⟩ = false := fro_new _ _ _ (by simp)
  replace HB0 := Lib.hid (HB0.out.alloc (by simp) (.cells #[.slice none 0 0, .int .i64 0] 46))
  have s0 : w.heap.size + 2 ≤ ((w.alloc (.cells #[.slice p ws.length q, .int .i64 b] 46)).alloc (.cells #[.slice none 0 0, .int .i64 0] 46)).heap.size := by simp
  generalize hw : ((w.alloc (.cells #[.slice p ws.length q, .int .i64 b] 46)).alloc (.cells #[.slice none 0 0, .int .i64 0] 46)) = w0 at *
  clear hw
  have n0_0 : w.heap.size < w0.heap.size := by omega
  have n0_1 : w.heap.size + 1 < w0.heap.size := by omega
  refine (spec_plane p ws q (b) _ (Hhp.out.below HB0.out) hn true h1).mono ?_
  rintro e w1 ⟨rfl, hb⟩
  have s1 : w0.heap.size ≤ w1.heap.size := hb.size
  have n1_0 : w.heap.size < w1.heap.size := by omega
  have n1_1 : w.heap.size + 1 < w1.heap.size := by omega
  replace x0_0 := cell_below hb x0_0 (by omega)
  replace x0_1 := cell_below hb x0_1 (by omega)
  replace x1_0 := cell_below hb x1_0 (by omega)
  replace x1_1 := cell_below hb x1_1 (by omega)
  replace f1_0 := fro_below hb f1_0 (by omega)
  replace f1_1 := fro_below hb f1_1 (by omega)
  have HB1 := Lib.hid (HB0.out.trans (hb.mono (by omega)))
  clear hb
  go_wp2_with fail
  refine (spec_one p ws q b a xs c _ (Hhp.out.below HB1.out) (Hhx.out.below HB1.out) hn hm true h2).mono ?_
  rintro e w2 ⟨rfl, hb⟩
  have s2 : w1.heap.size ≤ w2.heap.size := hb.size
  have n2_0 : w.heap.size < w2.heap.size := by omega
  have n2_1 : w.heap.size + 1 < w2.heap.size := by omega
  replace x0_0 := cell_below hb x0_0 (by omega)
  replace x0_1 := cell_below hb x0_1 (by omega)
  replace x1_0 := cell_below hb x1_0 (by omega)
  replace x1_1 := cell_below hb x1_1 (by omega)
  replace f1_0 := fro_below hb f1_0 (by omega)
  replace f1_1 := fro_below hb f1_1 (by omega)
  have HB2 := Lib.hid (HB1.out.trans (hb.mono (by omega)))
  clear hb
  go_wp2_with fail
  have hl2 := Lib.hid (lit2 w2 1 (-1))
  have hnum : ([1, -1] : List Int).length ≤ 1048576 := by decide
  replace x0_0 := cell_old (.cells #[.int .i64 1, .int .i64 (-1)] 3) x0_0
  replace x0_1 := cell_old (.cells #[.int .i64 1, .int .i64 (-1)] 3) x0_1
  replace x1_0 := cell_old (.cells #[.int .i64 1, .int .i64 (-1)] 3) x1_0
  replace x1_1 := cell_old (.cells #[.int .i64 1, .int .i64 (-1)] 3) x1_1
  replace f1_0 := fro_old (.cells #[.int .i64 1, .int .i64 (-1)] 3) (by omega) f1_0
  replace f1_1 := fro_old (.cells #[.int .i64 1, .int .i64 (-1)] 3) (by omega) f1_1
  have l2_0 : (w2.alloc (.cells #[.int .i64 1, .int .i64 (-1)] 3)).cell? ⟨w2.heap.size, 0, none⟩ = some (.int .i64 1) := cell_new _ _ _ rfl rfl
  have l2_1 : (w2.alloc (.cells #[.int .i64 1, .int .i64 (-1)] 3)).cell? ⟨w2.heap.size, 1, none⟩ = some (.int .i64 (-1)) := cell_new _ _ _ rfl rfl
  have HB3 := Lib.hid (HB2.out.trans ((below_alloc w2 (.cells #[.int .i64 1, .int .i64 (-1)] 3)).mono (by omega)))
  have s3 : w2.heap.size < (w2.alloc (.cells #[.int .i64 1, .int .i64 (-1)] 3)).heap.size := by simp
  generalize hw : w2.alloc (.cells #[.int .i64 1, .int .i64 (-1)] 3) = w3 at *
  clear hw
  have n3_0 : w.heap.size < w3.heap.size := by omega
  have n3_1 : w.heap.size + 1 < w3.heap.size := by omega
  have n3_2 : w2.heap.size < w3.heap.size := by omega
  refine (spec_has (some ⟨w2.heap.size, 0, none⟩) [1, -1] 2 y _ hl2.out hnum false HY).mono ?_
  rintro e w' ⟨rfl, rfl⟩
  go_wp2_with fail
  refine bodyPost_ret (v := .tuple #[.agg #[.slice none 0 0, .int .i64 0], .bool false, .bool false]) (by simp [results, Try.results46, go_sem, x1_0, x1_1]) rfl ⟨_, rfl, OwnI.nil _ _ _, ?_⟩
  first | exact ((HB3.out.setCell (by simp) _).setCell (by simp) _) | exact HB3.out
set_option maxRecDepth 100000 in
set_option maxHeartbeats 4000000 in
theorem spec_same (p : Option Addr) (ws : List Int) (q : Nat) (b : Int) (a : Option Addr) (xs : List Int) (c : Nat) (y : Int) (w : World) (hp : ints.Reads .i64 w p ws) (hx : ints.Reads .i64 w a xs) (hn : ws.length ≤ 1048576) (hm : xs.length ≤ 1048576) (h1 : Hid (planeB ws b = true)) (h2 : Hid (oneB ws b xs = true)) (h : Hid (labelB y = true)) (hs : side ws b xs = y) :
    Calls Try.prog 46 #[.agg #[.slice p ws.length q, .int .i64 b], .slice a xs.length c, .int .i64 y] w (RetPBB ws b false true w) := by
  have HY : Hid (hasB [1, -1] y = true) := Lib.hid ((has_label y).trans h.out)
  have HFt := Lib.hid (ask_fit (show askB ws b xs y = true from by unfold askB; rw [h2.out, h.out]; rfl) y (.inl rfl))
  have hpos := HFt.out.pos
  have hle := HFt.out.le
  have Hhp := Lib.hid hp
  have Hhx := Lib.hid hx
  clear hp hx
  go_enter Try.func46, Try.ntmps46
  go_wp2_with fail
  have x0_0 : (w.alloc (.cells #[.slice p ws.length q, .int .i64 b] 46)).cell? ⟨w.heap.size, 0, none⟩ = some (.slice p ws.length q) := cell_new _ _ _ (by simp) rfl
  have x0_1 : (w.alloc (.cells #[.slice p ws.length q, .int .i64 b] 46)).cell? ⟨w.heap.size, 1, none⟩ = some (.int .i64 b) := cell_new _ _ _ (by simp) rfl
  have HB0 := Lib.hid (below_alloc w (.cells #[.slice p ws.length q, .int .i64 b] 46))
  replace x0_0 := cell_old (.cells #[.slice none 0 0, .int .i64 0] 46) x0_0
  replace x0_1 := cell_old (.cells #[.slice none 0 0, .int .i64 0] 46) x0_1
  have x1_0 : ((w.alloc (.cells #[.slice p ws.length q, .int .i64 b] 46)).alloc (.cells #[.slice none 0 0, .int .i64 0] 46)).cell? ⟨w.heap.size + 1, 0, none⟩ = some (.slice none 0 0) := cell_new _ _ _ (by simp) rfl
  have x1_1 : ((w.alloc (.cells #[.slice p ws.length q, .int .i64 b] 46)).alloc (.cells #[.slice none 0 0, .int .i64 0] 46)).cell? ⟨w.heap.size + 1, 1, none⟩ = some (.int .i64 0) := cell_new _ _ _ (by simp) rfl
  have f1_0 : ((w.alloc (.cells #[.slice p ws.length q, .int .i64 b] 46)).alloc (.cells #[.slice none 0 0, .int .i64 0] 46)).frozen? ⟨w.heap.size + 1, 0, none⟩ = false := fro_new _ _ _ (by simp)
  have f1_1 : ((w.alloc (.cells #[.slice p ws.length q, .int .i64 b] 46)).alloc (.cells #[.slice none 0 0, .int .i64 0] 46)).frozen? ⟨w.heap.size + 1, 1, none⟩ = false := fro_new _ _ _ (by simp)
  replace HB0 := Lib.hid (HB0.out.alloc (by simp) (.cells #[.slice none 0 0, .int .i64 0] 46))
  have s0 : w.heap.size + 2 ≤ ((w.alloc (.cells #[.slice p ws.length q, .int .i64 b] 46)).alloc (.cells #[.slice none 0 0, .int .i64 0] 46)).heap.size := by simp
  generalize hw : ((w.alloc (.cells #[.slice p ws.length q, .int .i64 b] 46)).alloc (.cells #[.slice none 0 0, .int .i64 0] 46)) = w0 at *
  clear hw
  have n0_0 : w.heap.size < w0.heap.size := by omega
  have n0_1 : w.heap.size + 1 < w0.heap.size := by omega
  refine (spec_plane p ws q (b) _ (Hhp.out.below HB0.out) hn true h1).mono ?_
  rintro e w1 ⟨rfl, hb⟩
  have s1 : w0.heap.size ≤ w1.heap.size := hb.size
  have n1_0 : w.heap.size < w1.heap.size := by omega
  have n1_1 : w.heap.size + 1 < w1.heap.size := by omega
  replace x0_0 := cell_below hb x0_0 (by omega)
  replace x0_1 := cell_below hb x0_1 (by omega)
  replace x1_0 := cell_below hb x1_0 (by omega)
  replace x1_1 := cell_below hb x1_1 (by omega)
  replace f1_0 := fro_below hb f1_0 (by omega)
  replace f1_1 := fro_below hb f1_1 (by omega)
  have HB1 := Lib.hid (HB0.out.trans (hb.mono (by omega)))
  clear hb
  go_wp2_with fail
  refine (spec_one p ws q b a xs c _ (Hhp.out.below HB1.out) (Hhx.out.below HB1.out) hn hm true h2).mono ?_
  rintro e w2 ⟨rfl, hb⟩
  have s2 : w1.heap.size ≤ w2.heap.size := hb.size
  have n2_0 : w.heap.size < w2.heap.size := by omega
  have n2_1 : w.heap.size + 1 < w2.heap.size := by omega
  replace x0_0 := cell_below hb x0_0 (by omega)
  replace x0_1 := cell_below hb x0_1 (by omega)
  replace x1_0 := cell_below hb x1_0 (by omega)
  replace x1_1 := cell_below hb x1_1 (by omega)
  replace f1_0 := fro_below hb f1_0 (by omega)
  replace f1_1 := fro_below hb f1_1 (by omega)
  have HB2 := Lib.hid (HB1.out.trans (hb.mono (by omega)))
  clear hb
  go_wp2_with fail
  have hl2 := Lib.hid (lit2 w2 1 (-1))
  have hnum : ([1, -1] : List Int).length ≤ 1048576 := by decide
  replace x0_0 := cell_old (.cells #[.int .i64 1, .int .i64 (-1)] 3) x0_0
  replace x0_1 := cell_old (.cells #[.int .i64 1, .int .i64 (-1)] 3) x0_1
  replace x1_0 := cell_old (.cells #[.int .i64 1, .int .i64 (-1)] 3) x1_0
  replace x1_1 := cell_old (.cells #[.int .i64 1, .int .i64 (-1)] 3) x1_1
  replace f1_0 := fro_old (.cells #[.int .i64 1, .int .i64 (-1)] 3) (by omega) f1_0
  replace f1_1 := fro_old (.cells #[.int .i64 1, .int .i64 (-1)] 3) (by omega) f1_1
  have l2_0 : (w2.alloc (.cells #[.int .i64 1, .int .i64 (-1)] 3)).cell? ⟨w2.heap.size, 0, none⟩ = some (.int .i64 1) := cell_new _ _ _ rfl rfl
  have l2_1 : (w2.alloc (.cells #[.int .i64 1, .int .i64 (-1)] 3)).cell? ⟨w2.heap.size, 1, none⟩ = some (.int .i64 (-1)) := cell_new _ _ _ rfl rfl
  have HB3 := Lib.hid (HB2.out.trans ((below_alloc w2 (.cells #[.int .i64 1, .int .i64 (-1)] 3)).mono (by omega)))
  have s3 : w2.heap.size < (w2.alloc (.cells #[.int .i64 1, .int .i64 (-1)] 3)).heap.size := by simp
  generalize hw : w2.alloc (.cells #[.int .i64 1, .int .i64 (-1)] 3) = w3 at *
  clear hw
  have n3_0 : w.heap.size < w3.heap.size := by omega
  have n3_1 : w.heap.size + 1 < w3.heap.size := by omega
  have n3_2 : w2.heap.size < w3.heap.size := by omega
  refine (spec_has (some ⟨w2.heap.size, 0, none⟩) [1, -1] 2 y _ hl2.out hnum true HY).mono ?_
  rintro e w' ⟨rfl, rfl⟩
  go_wp2_with fail
  refine (step.spec_same p ws q b a xs c y _ (Hhp.out.below HB3.out) (Hhx.out.below HB3.out) HFt.out hs).mono ?_
  rintro e w4 ⟨rfl, hb⟩
  have s4 : w3.heap.size ≤ w4.heap.size := hb.size
  have n4_0 : w.heap.size < w4.heap.size := by omega
  have n4_1 : w.heap.size + 1 < w4.heap.size := by omega
  have n4_2 : w2.heap.size < w4.heap.size := by omega
  replace x0_0 := cell_below hb x0_0 (by omega)
  replace x0_1 := cell_below hb x0_1 (by omega)
  replace x1_0 := cell_below hb x1_0 (by omega)
  replace x1_1 := cell_below hb x1_1 (by omega)
  replace l2_0 := cell_below hb l2_0 (by omega)
  replace l2_1 := cell_below hb l2_1 (by omega)
  replace f1_0 := fro_below hb f1_0 (by omega)
  replace f1_1 := fro_below hb f1_1 (by omega)
  have HB4 := Lib.hid (HB3.out.trans (hb.mono (by omega)))
  clear hb
  go_wp2_with fail
  replace x0_0 := cell_old (.cells #[.slice p ws.length q, .int .i64 b] 46) x0_0
  replace x0_1 := cell_old (.cells #[.slice p ws.length q, .int .i64 b] 46) x0_1
  replace x1_0 := cell_old (.cells #[.slice p ws.length q, .int .i64 b] 46) x1_0
  replace x1_1 := cell_old (.cells #[.slice p ws.length q, .int .i64 b] 46) x1_1
  replace l2_0 := cell_old (.cells #[.slice p ws.length q, .int .i64 b] 46) l2_0
  replace l2_1 := cell_old (.cells #[.slice p ws.length q, .int .i64 b] 46) l2_1
  replace f1_0 := fro_old (.cells #[.slice p ws.length q, .int .i64 b] 46) (by omega) f1_0
  replace f1_1 := fro_old (.cells #[.slice p ws.length q, .int .i64 b] 46) (by omega) f1_1
  have o_0 : (w4.alloc (.cells #[.slice p ws.length q, .int .i64 b] 46)).cell? ⟨w4.heap.size, 0, none⟩ = some (.slice p ws.length q) := cell_new _ _ _ rfl rfl
  have o_1 : (w4.alloc (.cells #[.slice p ws.length q, .int .i64 b] 46)).cell? ⟨w4.heap.size, 1, none⟩ = some (.int .i64 b) := cell_new _ _ _ rfl rfl
  have HB5 := Lib.hid (HB4.out.trans ((below_alloc w4 (.cells #[.slice p ws.length q, .int .i64 b] 46)).mono (by omega)))
  have s5 : w4.heap.size < (w4.alloc (.cells #[.slice p ws.length q, .int .i64 b] 46)).heap.size := by simp
  generalize hw : w4.alloc (.cells #[.slice p ws.length q, .int .i64 b] 46) = w5 at *
  clear hw
  have n5_0 : w.heap.size < w5.heap.size := by omega
  have n5_1 : w.heap.size + 1 < w5.heap.size := by omega
  have n5_2 : w2.heap.size < w5.heap.size := by omega
  have n5_3 : w4.heap.size < w5.heap.size := by omega
  refine (spec_plane p ws q (b) _ (Hhp.out.below HB5.out) hn true h1).mono ?_
  rintro e w6 ⟨rfl, hb⟩
  have s6 : w5.heap.size ≤ w6.heap.size := hb.size
  have n6_0 : w.heap.size < w6.heap.size := by omega
  have n6_1 : w.heap.size + 1 < w6.heap.size := by omega
  have n6_2 : w2.heap.size < w6.heap.size := by omega
  have n6_3 : w4.heap.size < w6.heap.size := by omega
  replace x0_0 := cell_below hb x0_0 (by omega)
  replace x0_1 := cell_below hb x0_1 (by omega)
  replace x1_0 := cell_below hb x1_0 (by omega)
  replace x1_1 := cell_below hb x1_1 (by omega)
  replace l2_0 := cell_below hb l2_0 (by omega)
  replace l2_1 := cell_below hb l2_1 (by omega)
  replace o_0 := cell_below hb o_0 (by omega)
  replace o_1 := cell_below hb o_1 (by omega)
  replace f1_0 := fro_below hb f1_0 (by omega)
  replace f1_1 := fro_below hb f1_1 (by omega)
  have HB6 := Lib.hid (HB5.out.trans (hb.mono (by omega)))
  clear hb
  go_wp2_with fail
  have HT0 := Lib.hid (show ∀ (wa : World), (wa.cell? ⟨w.heap.size, 0, none⟩ = some (.slice p ws.length q) ∧ wa.cell? ⟨w.heap.size, 1, none⟩ = some (.int .i64 b) ∧ wa.cell? ⟨w2.heap.size, 0, none⟩ = some (.int .i64 1) ∧ wa.cell? ⟨w2.heap.size, 1, none⟩ = some (.int .i64 (-1)) ∧ wa.cell? ⟨w4.heap.size, 0, none⟩ = some (.slice p ws.length q) ∧ wa.cell? ⟨w4.heap.size, 1, none⟩ = some (.int .i64 b) ∧ w6.heap.size ≤ wa.heap.size ∧ Below w.heap.size w wa) → (wa.cell? ⟨w.heap.size + 1, 0, none⟩ = some (.slice none 0 0) ∧ wa.cell? ⟨w.heap.size + 1, 1, none⟩ = some (.int .i64 0) ∧ wa.frozen? ⟨w.heap.size + 1, 0, none⟩ = false ∧ wa.frozen? ⟨w.heap.size + 1, 1, none⟩ = false) → Calls Try.prog 72 #[.slice p ws.length q] wa (fun e w' => ∃ (p1 : Option Addr) (q1 : Nat), e = .returned (.slice p1 ws.length q1) ∧ OwnI w6.heap.size w'.heap.size w' (.slice p1 ws.length q1) ws ∧ (w'.cell? ⟨w.heap.size + 1, 0, none⟩ = some (.slice none 0 0) ∧ w'.cell? ⟨w.heap.size + 1, 1, none⟩ = some (.int .i64 0) ∧ w'.frozen? ⟨w.heap.size + 1, 0, none⟩ = false ∧ w'.frozen? ⟨w.heap.size + 1, 1, none⟩ = false) ∧ w'.cell? ⟨w.heap.size, 0, none⟩ = some (.slice p ws.length q) ∧ w'.cell? ⟨w.heap.size, 1, none⟩ = some (.int .i64 b) ∧ w'.cell? ⟨w2.heap.size, 0, none⟩ = some (.int .i64 1) ∧ w'.cell? ⟨w2.heap.size, 1, none⟩ = some (.int .i64 (-1)) ∧ w'.cell? ⟨w4.heap.size, 0, none⟩ = some (.slice p ws.length q) ∧ w'.cell? ⟨w4.heap.size, 1, none⟩ = some (.int .i64 b) ∧ w6.heap.size ≤ w'.heap.size ∧ Below w.heap.size w w') from fun wa  hS hQ  => by
    have hwz := hS.2.2.2.2.2.2.1
    have hB := hS.2.2.2.2.2.2.2
    refine (own1.spec_own p ws q wa (Hhp.out.below hB) (by omega) (by omega)).mono ?_
    rintro e w' ⟨v, rfl, ho, hb⟩
    obtain ⟨p1, q1, rfl, _, _, _⟩ := ho.slice
    exact ⟨p1, q1, rfl, ho.mono hwz (Nat.le_refl _), ⟨cell_below hb hQ.1 (by omega), cell_below hb hQ.2.1 (by omega), fro_below hb hQ.2.2.1 (by omega), fro_below hb hQ.2.2.2 (by omega)⟩, cell_below hb hS.1 (by omega), cell_below hb hS.2.1 (by omega), cell_below hb hS.2.2.1 (by omega), cell_below hb hS.2.2.2.1 (by omega), cell_below hb hS.2.2.2.2.1 (by omega), cell_below hb hS.2.2.2.2.2.1 (by omega), Nat.le_trans hwz hb.size, hB.trans (hb.mono hB.size)⟩)
  go_region_held3 (fun w' => w'.cell? ⟨w.heap.size, 0, none⟩ = some (.slice p ws.length q) ∧ w'.cell? ⟨w.heap.size, 1, none⟩ = some (.int .i64 b) ∧ w'.cell? ⟨w2.heap.size, 0, none⟩ = some (.int .i64 1) ∧ w'.cell? ⟨w2.heap.size, 1, none⟩ = some (.int .i64 (-1)) ∧ w'.cell? ⟨w4.heap.size, 0, none⟩ = some (.slice p ws.length q) ∧ w'.cell? ⟨w4.heap.size, 1, none⟩ = some (.int .i64 b) ∧ w6.heap.size ≤ w'.heap.size ∧ Below w.heap.size w w') (first | assumption | exact ⟨x0_0, x0_1, l2_0, l2_1, o_0, o_1, Nat.le_refl _, HB6.out⟩ | exact ⟨x0_0, x0_1, l2_0, l2_1, o_0, o_1, Nat.le_refl _, HB6.out.drew⟩ | exact ⟨cell_set (cell_set hbx.1 (by first | (simp; done) | (simp; omega) | omega) _) (by first | (simp; done) | (simp; omega) | omega) _, cell_set (cell_set hbx.2.1 (by first | (simp; done) | (simp; omega) | omega) _) (by first | (simp; done) | (simp; omega) | omega) _, cell_set (cell_set hbx.2.2.1 (by first | (simp; done) | (simp; omega) | omega) _) (by first | (simp; done) | (simp; omega) | omega) _, cell_set (cell_set hbx.2.2.2.1 (by first | (simp; done) | (simp; omega) | omega) _) (by first | (simp; done) | (simp; omega) | omega) _, cell_set (cell_set hbx.2.2.2.2.1 (by first | (simp; done) | (simp; omega) | omega) _) (by first | (simp; done) | (simp; omega) | omega) _, cell_set (cell_set hbx.2.2.2.2.2.1 (by first | (simp; done) | (simp; omega) | omega) _) (by first | (simp; done) | (simp; omega) | omega) _, by rw [size_set, size_set]; exact hbx.2.2.2.2.2.2.1, (hbx.2.2.2.2.2.2.2.setCell (by simp) _).setCell (by simp) _⟩) (first | (go_at_call 72; refine Calls.mono (HT0.out _ (by assumption) (by exact ⟨x1_0, x1_1, f1_0, f1_1⟩)) ?_; rintro e v0 ⟨p1, q1, rfl, ho0_0, hq0, hbx⟩))
  have HO0 := Lib.hid ho0_0
  obtain ⟨g0, g1, g2, g3⟩ := hq0
  have HSZ := Lib.hid hbx.2.2.2.2.2.2.1
  have HBE := Lib.hid hbx.2.2.2.2.2.2.2
  go_wp2_with fail
  refine bodyPost_ret (v := .tuple #[.agg #[.slice p1 ws.length q1, .int .i64 (b)], .bool false, .bool true]) (by simp [results, Try.results46, go_sem, g0, g1]) rfl ⟨_, rfl, ?_, ?_⟩
  · simp only [size_set]; exact ((HO0.out.set (by simp; omega) _).set (by simp; omega) _).mono (by omega) (Nat.le_refl _)
  · exact (HBE.out.setCell (by simp) _).setCell (by simp) _
set_option maxRecDepth 100000 in
set_option maxHeartbeats 4000000 in
theorem spec_out (p : Option Addr) (ws : List Int) (q : Nat) (b : Int) (a : Option Addr) (xs : List Int) (c : Nat) (y : Int) (w : World) (hp : ints.Reads .i64 w p ws) (hx : ints.Reads .i64 w a xs) (hn : ws.length ≤ 1048576) (hm : xs.length ≤ 1048576) (h1 : Hid (planeB ws b = true)) (h2 : Hid (oneB ws b xs = true)) (h : Hid (labelB y = true)) (hs : side ws b xs ≠ y) (hK : Hid (planeB (added ws xs y) (b - y) = false)) :
    Calls Try.prog 46 #[.agg #[.slice p ws.length q, .int .i64 b], .slice a xs.length c, .int .i64 y] w (RetPBB [] 0 false false w) := by
  have HY : Hid (hasB [1, -1] y = true) := Lib.hid ((has_label y).trans h.out)
  have HFt := Lib.hid (ask_fit (show askB ws b xs y = true from by unfold askB; rw [h2.out, h.out]; rfl) y (.inl rfl))
  have hpos := HFt.out.pos
  have hle := HFt.out.le
  have Hhp := Lib.hid hp
  have Hhx := Lib.hid hx
  clear hp hx
  go_enter Try.func46, Try.ntmps46
  go_wp2_with fail
  have x0_0 : (w.alloc (.cells #[.slice p ws.length q, .int .i64 b] 46)).cell? ⟨w.heap.size, 0, none⟩ = some (.slice p ws.length q) := cell_new _ _ _ (by simp) rfl
  have x0_1 : (w.alloc (.cells #[.slice p ws.length q, .int .i64 b] 46)).cell? ⟨w.heap.size, 1, none⟩ = some (.int .i64 b) := cell_new _ _ _ (by simp) rfl
  have HB0 := Lib.hid (below_alloc w (.cells #[.slice p ws.length q, .int .i64 b] 46))
  replace x0_0 := cell_old (.cells #[.slice none 0 0, .int .i64 0] 46) x0_0
  replace x0_1 := cell_old (.cells #[.slice none 0 0, .int .i64 0] 46) x0_1
  have x1_0 : ((w.alloc (.cells #[.slice p ws.length q, .int .i64 b] 46)).alloc (.cells #[.slice none 0 0, .int .i64 0] 46)).cell? ⟨w.heap.size + 1, 0, none⟩ = some (.slice none 0 0) := cell_new _ _ _ (by simp) rfl
  have x1_1 : ((w.alloc (.cells #[.slice p ws.length q, .int .i64 b] 46)).alloc (.cells #[.slice none 0 0, .int .i64 0] 46)).cell? ⟨w.heap.size + 1, 1, none⟩ = some (.int .i64 0) := cell_new _ _ _ (by simp) rfl
  have f1_0 : ((w.alloc (.cells #[.slice p ws.length q, .int .i64 b] 46)).alloc (.cells #[.slice none 0 0, .int .i64 0] 46)).frozen? ⟨w.heap.size + 1, 0, none⟩ = false := fro_new _ _ _ (by simp)
  have f1_1 : ((w.alloc (.cells #[.slice p ws.length q, .int .i64 b] 46)).alloc (.cells #[.slice none 0 0, .int .i64 0] 46)).frozen? ⟨w.heap.size + 1, 1, none⟩ = false := fro_new _ _ _ (by simp)
  replace HB0 := Lib.hid (HB0.out.alloc (by simp) (.cells #[.slice none 0 0, .int .i64 0] 46))
  have s0 : w.heap.size + 2 ≤ ((w.alloc (.cells #[.slice p ws.length q, .int .i64 b] 46)).alloc (.cells #[.slice none 0 0, .int .i64 0] 46)).heap.size := by simp
  generalize hw : ((w.alloc (.cells #[.slice p ws.length q, .int .i64 b] 46)).alloc (.cells #[.slice none 0 0, .int .i64 0] 46)) = w0 at *
  clear hw
  have n0_0 : w.heap.size < w0.heap.size := by omega
  have n0_1 : w.heap.size + 1 < w0.heap.size := by omega
  refine (spec_plane p ws q (b) _ (Hhp.out.below HB0.out) hn true h1).mono ?_
  rintro e w1 ⟨rfl, hb⟩
  have s1 : w0.heap.size ≤ w1.heap.size := hb.size
  have n1_0 : w.heap.size < w1.heap.size := by omega
  have n1_1 : w.heap.size + 1 < w1.heap.size := by omega
  replace x0_0 := cell_below hb x0_0 (by omega)
  replace x0_1 := cell_below hb x0_1 (by omega)
  replace x1_0 := cell_below hb x1_0 (by omega)
  replace x1_1 := cell_below hb x1_1 (by omega)
  replace f1_0 := fro_below hb f1_0 (by omega)
  replace f1_1 := fro_below hb f1_1 (by omega)
  have HB1 := Lib.hid (HB0.out.trans (hb.mono (by omega)))
  clear hb
  go_wp2_with fail
  refine (spec_one p ws q b a xs c _ (Hhp.out.below HB1.out) (Hhx.out.below HB1.out) hn hm true h2).mono ?_
  rintro e w2 ⟨rfl, hb⟩
  have s2 : w1.heap.size ≤ w2.heap.size := hb.size
  have n2_0 : w.heap.size < w2.heap.size := by omega
  have n2_1 : w.heap.size + 1 < w2.heap.size := by omega
  replace x0_0 := cell_below hb x0_0 (by omega)
  replace x0_1 := cell_below hb x0_1 (by omega)
  replace x1_0 := cell_below hb x1_0 (by omega)
  replace x1_1 := cell_below hb x1_1 (by omega)
  replace f1_0 := fro_below hb f1_0 (by omega)
  replace f1_1 := fro_below hb f1_1 (by omega)
  have HB2 := Lib.hid (HB1.out.trans (hb.mono (by omega)))
  clear hb
  go_wp2_with fail
  have hl2 := Lib.hid (lit2 w2 1 (-1))
  have hnum : ([1, -1] : List Int).length ≤ 1048576 := by decide
  replace x0_0 := cell_old (.cells #[.int .i64 1, .int .i64 (-1)] 3) x0_0
  replace x0_1 := cell_old (.cells #[.int .i64 1, .int .i64 (-1)] 3) x0_1
  replace x1_0 := cell_old (.cells #[.int .i64 1, .int .i64 (-1)] 3) x1_0
  replace x1_1 := cell_old (.cells #[.int .i64 1, .int .i64 (-1)] 3) x1_1
  replace f1_0 := fro_old (.cells #[.int .i64 1, .int .i64 (-1)] 3) (by omega) f1_0
  replace f1_1 := fro_old (.cells #[.int .i64 1, .int .i64 (-1)] 3) (by omega) f1_1
  have l2_0 : (w2.alloc (.cells #[.int .i64 1, .int .i64 (-1)] 3)).cell? ⟨w2.heap.size, 0, none⟩ = some (.int .i64 1) := cell_new _ _ _ rfl rfl
  have l2_1 : (w2.alloc (.cells #[.int .i64 1, .int .i64 (-1)] 3)).cell? ⟨w2.heap.size, 1, none⟩ = some (.int .i64 (-1)) := cell_new _ _ _ rfl rfl
  have HB3 := Lib.hid (HB2.out.trans ((below_alloc w2 (.cells #[.int .i64 1, .int .i64 (-1)] 3)).mono (by omega)))
  have s3 : w2.heap.size < (w2.alloc (.cells #[.int .i64 1, .int .i64 (-1)] 3)).heap.size := by simp
  generalize hw : w2.alloc (.cells #[.int .i64 1, .int .i64 (-1)] 3) = w3 at *
  clear hw
  have n3_0 : w.heap.size < w3.heap.size := by omega
  have n3_1 : w.heap.size + 1 < w3.heap.size := by omega
  have n3_2 : w2.heap.size < w3.heap.size := by omega
  refine (spec_has (some ⟨w2.heap.size, 0, none⟩) [1, -1] 2 y _ hl2.out hnum true HY).mono ?_
  rintro e w' ⟨rfl, rfl⟩
  go_wp2_with fail
  refine (step.spec_turned p ws q b a xs c y _ (Hhp.out.below HB3.out) (Hhx.out.below HB3.out) HFt.out hs).mono ?_
  rintro e w4 ⟨v, rfl, ho, hb⟩
  obtain ⟨g, cap, rfl, _, _⟩ := form ho (by rw [added_length]; omega)
  have HLV := Lib.hid (added_length ws xs y)
  generalize added ws xs y = vs at *
  have HO := Lib.hid ho
  clear ho
  have s4 : w3.heap.size ≤ w4.heap.size := hb.size
  have n4_0 : w.heap.size < w4.heap.size := by omega
  have n4_1 : w.heap.size + 1 < w4.heap.size := by omega
  have n4_2 : w2.heap.size < w4.heap.size := by omega
  replace x0_0 := cell_below hb x0_0 (by omega)
  replace x0_1 := cell_below hb x0_1 (by omega)
  replace x1_0 := cell_below hb x1_0 (by omega)
  replace x1_1 := cell_below hb x1_1 (by omega)
  replace l2_0 := cell_below hb l2_0 (by omega)
  replace l2_1 := cell_below hb l2_1 (by omega)
  replace f1_0 := fro_below hb f1_0 (by omega)
  replace f1_1 := fro_below hb f1_1 (by omega)
  have HB4 := Lib.hid (HB3.out.trans (hb.mono (by omega)))
  clear hb
  go_wp2_with fail
  replace x0_0 := cell_old (.cells #[.slice (some ⟨g, 0, none⟩) vs.length cap, .int .i64 (b - y)] 46) x0_0
  replace x0_1 := cell_old (.cells #[.slice (some ⟨g, 0, none⟩) vs.length cap, .int .i64 (b - y)] 46) x0_1
  replace x1_0 := cell_old (.cells #[.slice (some ⟨g, 0, none⟩) vs.length cap, .int .i64 (b - y)] 46) x1_0
  replace x1_1 := cell_old (.cells #[.slice (some ⟨g, 0, none⟩) vs.length cap, .int .i64 (b - y)] 46) x1_1
  replace l2_0 := cell_old (.cells #[.slice (some ⟨g, 0, none⟩) vs.length cap, .int .i64 (b - y)] 46) l2_0
  replace l2_1 := cell_old (.cells #[.slice (some ⟨g, 0, none⟩) vs.length cap, .int .i64 (b - y)] 46) l2_1
  replace f1_0 := fro_old (.cells #[.slice (some ⟨g, 0, none⟩) vs.length cap, .int .i64 (b - y)] 46) (by omega) f1_0
  replace f1_1 := fro_old (.cells #[.slice (some ⟨g, 0, none⟩) vs.length cap, .int .i64 (b - y)] 46) (by omega) f1_1
  have o_0 : (w4.alloc (.cells #[.slice (some ⟨g, 0, none⟩) vs.length cap, .int .i64 (b - y)] 46)).cell? ⟨w4.heap.size, 0, none⟩ = some (.slice (some ⟨g, 0, none⟩) vs.length cap) := cell_new _ _ _ rfl rfl
  have o_1 : (w4.alloc (.cells #[.slice (some ⟨g, 0, none⟩) vs.length cap, .int .i64 (b - y)] 46)).cell? ⟨w4.heap.size, 1, none⟩ = some (.int .i64 (b - y)) := cell_new _ _ _ rfl rfl
  replace HO := Lib.hid (HO.out.below (below_alloc w4 (.cells #[.slice (some ⟨g, 0, none⟩) vs.length cap, .int .i64 (b - y)] 46)))
  have HB5 := Lib.hid (HB4.out.trans ((below_alloc w4 (.cells #[.slice (some ⟨g, 0, none⟩) vs.length cap, .int .i64 (b - y)] 46)).mono (by omega)))
  have s5 : w4.heap.size < (w4.alloc (.cells #[.slice (some ⟨g, 0, none⟩) vs.length cap, .int .i64 (b - y)] 46)).heap.size := by simp
  generalize hw : w4.alloc (.cells #[.slice (some ⟨g, 0, none⟩) vs.length cap, .int .i64 (b - y)] 46) = w5 at *
  clear hw
  have n5_0 : w.heap.size < w5.heap.size := by omega
  have n5_1 : w.heap.size + 1 < w5.heap.size := by omega
  have n5_2 : w2.heap.size < w5.heap.size := by omega
  have n5_3 : w4.heap.size < w5.heap.size := by omega
  refine (spec_plane (some ⟨g, 0, none⟩) vs cap (b - y) _ HO.out.reads (by have := HLV.out; omega) false hK).mono ?_
  rintro e w6 ⟨rfl, hb⟩
  have s6 : w5.heap.size ≤ w6.heap.size := hb.size
  have n6_0 : w.heap.size < w6.heap.size := by omega
  have n6_1 : w.heap.size + 1 < w6.heap.size := by omega
  have n6_2 : w2.heap.size < w6.heap.size := by omega
  have n6_3 : w4.heap.size < w6.heap.size := by omega
  replace x0_0 := cell_below hb x0_0 (by omega)
  replace x0_1 := cell_below hb x0_1 (by omega)
  replace x1_0 := cell_below hb x1_0 (by omega)
  replace x1_1 := cell_below hb x1_1 (by omega)
  replace l2_0 := cell_below hb l2_0 (by omega)
  replace l2_1 := cell_below hb l2_1 (by omega)
  replace o_0 := cell_below hb o_0 (by omega)
  replace o_1 := cell_below hb o_1 (by omega)
  replace f1_0 := fro_below hb f1_0 (by omega)
  replace f1_1 := fro_below hb f1_1 (by omega)
  replace HO := Lib.hid (HO.out.below hb)
  have HB6 := Lib.hid (HB5.out.trans (hb.mono (by omega)))
  clear hb
  go_wp2_with fail
  refine bodyPost_ret (v := .tuple #[.agg #[.slice none 0 0, .int .i64 0], .bool false, .bool false]) (by simp [results, Try.results46, go_sem, x1_0, x1_1]) rfl ⟨_, rfl, OwnI.nil _ _ _, ?_⟩
  first | exact ((HB6.out.setCell (by simp) _).setCell (by simp) _) | exact HB6.out
set_option maxRecDepth 100000 in
set_option maxHeartbeats 4000000 in
theorem spec_turn (p : Option Addr) (ws : List Int) (q : Nat) (b : Int) (a : Option Addr) (xs : List Int) (c : Nat) (y : Int) (w : World) (hp : ints.Reads .i64 w p ws) (hx : ints.Reads .i64 w a xs) (hn : ws.length ≤ 1048576) (hm : xs.length ≤ 1048576) (h1 : Hid (planeB ws b = true)) (h2 : Hid (oneB ws b xs = true)) (h : Hid (labelB y = true)) (hs : side ws b xs ≠ y) (hK : Hid (planeB (added ws xs y) (b - y) = true)) :
    Calls Try.prog 46 #[.agg #[.slice p ws.length q, .int .i64 b], .slice a xs.length c, .int .i64 y] w (RetPBB (added ws xs y) (b - y) true true w) := by
  have HY : Hid (hasB [1, -1] y = true) := Lib.hid ((has_label y).trans h.out)
  have HFt := Lib.hid (ask_fit (show askB ws b xs y = true from by unfold askB; rw [h2.out, h.out]; rfl) y (.inl rfl))
  have hpos := HFt.out.pos
  have hle := HFt.out.le
  have Hhp := Lib.hid hp
  have Hhx := Lib.hid hx
  clear hp hx
  go_enter Try.func46, Try.ntmps46
  go_wp2_with fail
  have x0_0 : (w.alloc (.cells #[.slice p ws.length q, .int .i64 b] 46)).cell? ⟨w.heap.size, 0, none⟩ = some (.slice p ws.length q) := cell_new _ _ _ (by simp) rfl
  have x0_1 : (w.alloc (.cells #[.slice p ws.length q, .int .i64 b] 46)).cell? ⟨w.heap.size, 1, none⟩ = some (.int .i64 b) := cell_new _ _ _ (by simp) rfl
  have HB0 := Lib.hid (below_alloc w (.cells #[.slice p ws.length q, .int .i64 b] 46))
  replace x0_0 := cell_old (.cells #[.slice none 0 0, .int .i64 0] 46) x0_0
  replace x0_1 := cell_old (.cells #[.slice none 0 0, .int .i64 0] 46) x0_1
  have x1_0 : ((w.alloc (.cells #[.slice p ws.length q, .int .i64 b] 46)).alloc (.cells #[.slice none 0 0, .int .i64 0] 46)).cell? ⟨w.heap.size + 1, 0, none⟩ = some (.slice none 0 0) := cell_new _ _ _ (by simp) rfl
  have x1_1 : ((w.alloc (.cells #[.slice p ws.length q, .int .i64 b] 46)).alloc (.cells #[.slice none 0 0, .int .i64 0] 46)).cell? ⟨w.heap.size + 1, 1, none⟩ = some (.int .i64 0) := cell_new _ _ _ (by simp) rfl
  have f1_0 : ((w.alloc (.cells #[.slice p ws.length q, .int .i64 b] 46)).alloc (.cells #[.slice none 0 0, .int .i64 0] 46)).frozen? ⟨w.heap.size + 1, 0, none⟩ = false := fro_new _ _ _ (by simp)
  have f1_1 : ((w.alloc (.cells #[.slice p ws.length q, .int .i64 b] 46)).alloc (.cells #[.slice none 0 0, .int .i64 0] 46)).frozen? ⟨w.heap.size + 1, 1, none⟩ = false := fro_new _ _ _ (by simp)
  replace HB0 := Lib.hid (HB0.out.alloc (by simp) (.cells #[.slice none 0 0, .int .i64 0] 46))
  have s0 : w.heap.size + 2 ≤ ((w.alloc (.cells #[.slice p ws.length q, .int .i64 b] 46)).alloc (.cells #[.slice none 0 0, .int .i64 0] 46)).heap.size := by simp
  generalize hw : ((w.alloc (.cells #[.slice p ws.length q, .int .i64 b] 46)).alloc (.cells #[.slice none 0 0, .int .i64 0] 46)) = w0 at *
  clear hw
  have n0_0 : w.heap.size < w0.heap.size := by omega
  have n0_1 : w.heap.size + 1 < w0.heap.size := by omega
  refine (spec_plane p ws q (b) _ (Hhp.out.below HB0.out) hn true h1).mono ?_
  rintro e w1 ⟨rfl, hb⟩
  have s1 : w0.heap.size ≤ w1.heap.size := hb.size
  have n1_0 : w.heap.size < w1.heap.size := by omega
  have n1_1 : w.heap.size + 1 < w1.heap.size := by omega
  replace x0_0 := cell_below hb x0_0 (by omega)
  replace x0_1 := cell_below hb x0_1 (by omega)
  replace x1_0 := cell_below hb x1_0 (by omega)
  replace x1_1 := cell_below hb x1_1 (by omega)
  replace f1_0 := fro_below hb f1_0 (by omega)
  replace f1_1 := fro_below hb f1_1 (by omega)
  have HB1 := Lib.hid (HB0.out.trans (hb.mono (by omega)))
  clear hb
  go_wp2_with fail
  refine (spec_one p ws q b a xs c _ (Hhp.out.below HB1.out) (Hhx.out.below HB1.out) hn hm true h2).mono ?_
  rintro e w2 ⟨rfl, hb⟩
  have s2 : w1.heap.size ≤ w2.heap.size := hb.size
  have n2_0 : w.heap.size < w2.heap.size := by omega
  have n2_1 : w.heap.size + 1 < w2.heap.size := by omega
  replace x0_0 := cell_below hb x0_0 (by omega)
  replace x0_1 := cell_below hb x0_1 (by omega)
  replace x1_0 := cell_below hb x1_0 (by omega)
  replace x1_1 := cell_below hb x1_1 (by omega)
  replace f1_0 := fro_below hb f1_0 (by omega)
  replace f1_1 := fro_below hb f1_1 (by omega)
  have HB2 := Lib.hid (HB1.out.trans (hb.mono (by omega)))
  clear hb
  go_wp2_with fail
  have hl2 := Lib.hid (lit2 w2 1 (-1))
  have hnum : ([1, -1] : List Int).length ≤ 1048576 := by decide
  replace x0_0 := cell_old (.cells #[.int .i64 1, .int .i64 (-1)] 3) x0_0
  replace x0_1 := cell_old (.cells #[.int .i64 1, .int .i64 (-1)] 3) x0_1
  replace x1_0 := cell_old (.cells #[.int .i64 1, .int .i64 (-1)] 3) x1_0
  replace x1_1 := cell_old (.cells #[.int .i64 1, .int .i64 (-1)] 3) x1_1
  replace f1_0 := fro_old (.cells #[.int .i64 1, .int .i64 (-1)] 3) (by omega) f1_0
  replace f1_1 := fro_old (.cells #[.int .i64 1, .int .i64 (-1)] 3) (by omega) f1_1
  have l2_0 : (w2.alloc (.cells #[.int .i64 1, .int .i64 (-1)] 3)).cell? ⟨w2.heap.size, 0, none⟩ = some (.int .i64 1) := cell_new _ _ _ rfl rfl
  have l2_1 : (w2.alloc (.cells #[.int .i64 1, .int .i64 (-1)] 3)).cell? ⟨w2.heap.size, 1, none⟩ = some (.int .i64 (-1)) := cell_new _ _ _ rfl rfl
  have HB3 := Lib.hid (HB2.out.trans ((below_alloc w2 (.cells #[.int .i64 1, .int .i64 (-1)] 3)).mono (by omega)))
  have s3 : w2.heap.size < (w2.alloc (.cells #[.int .i64 1, .int .i64 (-1)] 3)).heap.size := by simp
  generalize hw : w2.alloc (.cells #[.int .i64 1, .int .i64 (-1)] 3) = w3 at *
  clear hw
  have n3_0 : w.heap.size < w3.heap.size := by omega
  have n3_1 : w.heap.size + 1 < w3.heap.size := by omega
  have n3_2 : w2.heap.size < w3.heap.size := by omega
  refine (spec_has (some ⟨w2.heap.size, 0, none⟩) [1, -1] 2 y _ hl2.out hnum true HY).mono ?_
  rintro e w' ⟨rfl, rfl⟩
  go_wp2_with fail
  refine (step.spec_turned p ws q b a xs c y _ (Hhp.out.below HB3.out) (Hhx.out.below HB3.out) HFt.out hs).mono ?_
  rintro e w4 ⟨v, rfl, ho, hb⟩
  obtain ⟨g, cap, rfl, _, _⟩ := form ho (by rw [added_length]; omega)
  have HLV := Lib.hid (added_length ws xs y)
  generalize added ws xs y = vs at *
  have HO := Lib.hid ho
  clear ho
  have s4 : w3.heap.size ≤ w4.heap.size := hb.size
  have n4_0 : w.heap.size < w4.heap.size := by omega
  have n4_1 : w.heap.size + 1 < w4.heap.size := by omega
  have n4_2 : w2.heap.size < w4.heap.size := by omega
  replace x0_0 := cell_below hb x0_0 (by omega)
  replace x0_1 := cell_below hb x0_1 (by omega)
  replace x1_0 := cell_below hb x1_0 (by omega)
  replace x1_1 := cell_below hb x1_1 (by omega)
  replace l2_0 := cell_below hb l2_0 (by omega)
  replace l2_1 := cell_below hb l2_1 (by omega)
  replace f1_0 := fro_below hb f1_0 (by omega)
  replace f1_1 := fro_below hb f1_1 (by omega)
  have HB4 := Lib.hid (HB3.out.trans (hb.mono (by omega)))
  clear hb
  go_wp2_with fail
  replace x0_0 := cell_old (.cells #[.slice (some ⟨g, 0, none⟩) vs.length cap, .int .i64 (b - y)] 46) x0_0
  replace x0_1 := cell_old (.cells #[.slice (some ⟨g, 0, none⟩) vs.length cap, .int .i64 (b - y)] 46) x0_1
  replace x1_0 := cell_old (.cells #[.slice (some ⟨g, 0, none⟩) vs.length cap, .int .i64 (b - y)] 46) x1_0
  replace x1_1 := cell_old (.cells #[.slice (some ⟨g, 0, none⟩) vs.length cap, .int .i64 (b - y)] 46) x1_1
  replace l2_0 := cell_old (.cells #[.slice (some ⟨g, 0, none⟩) vs.length cap, .int .i64 (b - y)] 46) l2_0
  replace l2_1 := cell_old (.cells #[.slice (some ⟨g, 0, none⟩) vs.length cap, .int .i64 (b - y)] 46) l2_1
  replace f1_0 := fro_old (.cells #[.slice (some ⟨g, 0, none⟩) vs.length cap, .int .i64 (b - y)] 46) (by omega) f1_0
  replace f1_1 := fro_old (.cells #[.slice (some ⟨g, 0, none⟩) vs.length cap, .int .i64 (b - y)] 46) (by omega) f1_1
  have o_0 : (w4.alloc (.cells #[.slice (some ⟨g, 0, none⟩) vs.length cap, .int .i64 (b - y)] 46)).cell? ⟨w4.heap.size, 0, none⟩ = some (.slice (some ⟨g, 0, none⟩) vs.length cap) := cell_new _ _ _ rfl rfl
  have o_1 : (w4.alloc (.cells #[.slice (some ⟨g, 0, none⟩) vs.length cap, .int .i64 (b - y)] 46)).cell? ⟨w4.heap.size, 1, none⟩ = some (.int .i64 (b - y)) := cell_new _ _ _ rfl rfl
  replace HO := Lib.hid (HO.out.below (below_alloc w4 (.cells #[.slice (some ⟨g, 0, none⟩) vs.length cap, .int .i64 (b - y)] 46)))
  have HB5 := Lib.hid (HB4.out.trans ((below_alloc w4 (.cells #[.slice (some ⟨g, 0, none⟩) vs.length cap, .int .i64 (b - y)] 46)).mono (by omega)))
  have s5 : w4.heap.size < (w4.alloc (.cells #[.slice (some ⟨g, 0, none⟩) vs.length cap, .int .i64 (b - y)] 46)).heap.size := by simp
  generalize hw : w4.alloc (.cells #[.slice (some ⟨g, 0, none⟩) vs.length cap, .int .i64 (b - y)] 46) = w5 at *
  clear hw
  have n5_0 : w.heap.size < w5.heap.size := by omega
  have n5_1 : w.heap.size + 1 < w5.heap.size := by omega
  have n5_2 : w2.heap.size < w5.heap.size := by omega
  have n5_3 : w4.heap.size < w5.heap.size := by omega
  refine (spec_plane (some ⟨g, 0, none⟩) vs cap (b - y) _ HO.out.reads (by have := HLV.out; omega) true hK).mono ?_
  rintro e w6 ⟨rfl, hb⟩
  have s6 : w5.heap.size ≤ w6.heap.size := hb.size
  have n6_0 : w.heap.size < w6.heap.size := by omega
  have n6_1 : w.heap.size + 1 < w6.heap.size := by omega
  have n6_2 : w2.heap.size < w6.heap.size := by omega
  have n6_3 : w4.heap.size < w6.heap.size := by omega
  replace x0_0 := cell_below hb x0_0 (by omega)
  replace x0_1 := cell_below hb x0_1 (by omega)
  replace x1_0 := cell_below hb x1_0 (by omega)
  replace x1_1 := cell_below hb x1_1 (by omega)
  replace l2_0 := cell_below hb l2_0 (by omega)
  replace l2_1 := cell_below hb l2_1 (by omega)
  replace o_0 := cell_below hb o_0 (by omega)
  replace o_1 := cell_below hb o_1 (by omega)
  replace f1_0 := fro_below hb f1_0 (by omega)
  replace f1_1 := fro_below hb f1_1 (by omega)
  replace HO := Lib.hid (HO.out.below hb)
  have HB6 := Lib.hid (HB5.out.trans (hb.mono (by omega)))
  clear hb
  go_wp2_with fail
  have HT0 := Lib.hid (show ∀ (wa : World), (wa.cell? ⟨w.heap.size, 0, none⟩ = some (.slice p ws.length q) ∧ wa.cell? ⟨w.heap.size, 1, none⟩ = some (.int .i64 b) ∧ wa.cell? ⟨w2.heap.size, 0, none⟩ = some (.int .i64 1) ∧ wa.cell? ⟨w2.heap.size, 1, none⟩ = some (.int .i64 (-1)) ∧ wa.cell? ⟨w4.heap.size, 0, none⟩ = some (.slice (some ⟨g, 0, none⟩) vs.length cap) ∧ wa.cell? ⟨w4.heap.size, 1, none⟩ = some (.int .i64 (b - y)) ∧ OwnI w3.heap.size w4.heap.size wa (.slice (some ⟨g, 0, none⟩) vs.length cap) vs ∧ w6.heap.size ≤ wa.heap.size ∧ Below w.heap.size w wa) → (wa.cell? ⟨w.heap.size + 1, 0, none⟩ = some (.slice none 0 0) ∧ wa.cell? ⟨w.heap.size + 1, 1, none⟩ = some (.int .i64 0) ∧ wa.frozen? ⟨w.heap.size + 1, 0, none⟩ = false ∧ wa.frozen? ⟨w.heap.size + 1, 1, none⟩ = false) → Calls Try.prog 72 #[.slice (some ⟨g, 0, none⟩) vs.length cap] wa (fun e w' => ∃ (p1 : Option Addr) (q1 : Nat), e = .returned (.slice p1 vs.length q1) ∧ OwnI w6.heap.size w'.heap.size w' (.slice p1 vs.length q1) vs ∧ (w'.cell? ⟨w.heap.size + 1, 0, none⟩ = some (.slice none 0 0) ∧ w'.cell? ⟨w.heap.size + 1, 1, none⟩ = some (.int .i64 0) ∧ w'.frozen? ⟨w.heap.size + 1, 0, none⟩ = false ∧ w'.frozen? ⟨w.heap.size + 1, 1, none⟩ = false) ∧ w'.cell? ⟨w.heap.size, 0, none⟩ = some (.slice p ws.length q) ∧ w'.cell? ⟨w.heap.size, 1, none⟩ = some (.int .i64 b) ∧ w'.cell? ⟨w2.heap.size, 0, none⟩ = some (.int .i64 1) ∧ w'.cell? ⟨w2.heap.size, 1, none⟩ = some (.int .i64 (-1)) ∧ w'.cell? ⟨w4.heap.size, 0, none⟩ = some (.slice (some ⟨g, 0, none⟩) vs.length cap) ∧ w'.cell? ⟨w4.heap.size, 1, none⟩ = some (.int .i64 (b - y)) ∧ OwnI w3.heap.size w4.heap.size w' (.slice (some ⟨g, 0, none⟩) vs.length cap) vs ∧ w6.heap.size ≤ w'.heap.size ∧ Below w.heap.size w w') from fun wa  hS hQ  => by
    have hwz := hS.2.2.2.2.2.2.2.1
    have hB := hS.2.2.2.2.2.2.2.2
    refine (own1.spec_own (some ⟨g, 0, none⟩) vs cap wa (hS.2.2.2.2.2.2.1.reads) (by have := HLV.out; omega) (by have := HLV.out; omega)).mono ?_
    rintro e w' ⟨v, rfl, ho, hb⟩
    obtain ⟨p1, q1, rfl, _, _, _⟩ := ho.slice
    exact ⟨p1, q1, rfl, ho.mono hwz (Nat.le_refl _), ⟨cell_below hb hQ.1 (by omega), cell_below hb hQ.2.1 (by omega), fro_below hb hQ.2.2.1 (by omega), fro_below hb hQ.2.2.2 (by omega)⟩, cell_below hb hS.1 (by omega), cell_below hb hS.2.1 (by omega), cell_below hb hS.2.2.1 (by omega), cell_below hb hS.2.2.2.1 (by omega), cell_below hb hS.2.2.2.2.1 (by omega), cell_below hb hS.2.2.2.2.2.1 (by omega), hS.2.2.2.2.2.2.1.below (hb.mono (Nat.le_refl _)), Nat.le_trans hwz hb.size, hB.trans (hb.mono hB.size)⟩)
  go_region_held3 (fun w' => w'.cell? ⟨w.heap.size, 0, none⟩ = some (.slice p ws.length q) ∧ w'.cell? ⟨w.heap.size, 1, none⟩ = some (.int .i64 b) ∧ w'.cell? ⟨w2.heap.size, 0, none⟩ = some (.int .i64 1) ∧ w'.cell? ⟨w2.heap.size, 1, none⟩ = some (.int .i64 (-1)) ∧ w'.cell? ⟨w4.heap.size, 0, none⟩ = some (.slice (some ⟨g, 0, none⟩) vs.length cap) ∧ w'.cell? ⟨w4.heap.size, 1, none⟩ = some (.int .i64 (b - y)) ∧ OwnI w3.heap.size w4.heap.size w' (.slice (some ⟨g, 0, none⟩) vs.length cap) vs ∧ w6.heap.size ≤ w'.heap.size ∧ Below w.heap.size w w') (first | assumption | exact ⟨x0_0, x0_1, l2_0, l2_1, o_0, o_1, HO.out, Nat.le_refl _, HB6.out⟩ | exact ⟨x0_0, x0_1, l2_0, l2_1, o_0, o_1, HO.out, Nat.le_refl _, HB6.out.drew⟩ | exact ⟨cell_set (cell_set hbx.1 (by first | (simp; done) | (simp; omega) | omega) _) (by first | (simp; done) | (simp; omega) | omega) _, cell_set (cell_set hbx.2.1 (by first | (simp; done) | (simp; omega) | omega) _) (by first | (simp; done) | (simp; omega) | omega) _, cell_set (cell_set hbx.2.2.1 (by first | (simp; done) | (simp; omega) | omega) _) (by first | (simp; done) | (simp; omega) | omega) _, cell_set (cell_set hbx.2.2.2.1 (by first | (simp; done) | (simp; omega) | omega) _) (by first | (simp; done) | (simp; omega) | omega) _, cell_set (cell_set hbx.2.2.2.2.1 (by first | (simp; done) | (simp; omega) | omega) _) (by first | (simp; done) | (simp; omega) | omega) _, cell_set (cell_set hbx.2.2.2.2.2.1 (by first | (simp; done) | (simp; omega) | omega) _) (by first | (simp; done) | (simp; omega) | omega) _, (hbx.2.2.2.2.2.2.1.set (by simp; omega) _).set (by simp; omega) _, by rw [size_set, size_set]; exact hbx.2.2.2.2.2.2.2.1, (hbx.2.2.2.2.2.2.2.2.setCell (by simp) _).setCell (by simp) _⟩) (first | (go_at_call 72; refine Calls.mono (HT0.out _ (by assumption) (by exact ⟨x1_0, x1_1, f1_0, f1_1⟩)) ?_; rintro e v0 ⟨p1, q1, rfl, ho0_0, hq0, hbx⟩))
  have HO0 := Lib.hid ho0_0
  obtain ⟨g0, g1, g2, g3⟩ := hq0
  have HSZ := Lib.hid hbx.2.2.2.2.2.2.2.1
  have HBE := Lib.hid hbx.2.2.2.2.2.2.2.2
  go_wp2_with fail
  refine bodyPost_ret (v := .tuple #[.agg #[.slice p1 vs.length q1, .int .i64 (b - y)], .bool true, .bool true]) (by simp [results, Try.results46, go_sem, g0, g1]) rfl ⟨_, rfl, ?_, ?_⟩
  · simp only [size_set]; exact ((HO0.out.set (by simp; omega) _).set (by simp; omega) _).mono (by omega) (Nat.le_refl _)
  · exact (HBE.out.setCell (by simp) _).setCell (by simp) _
set_option maxRecDepth 100000 in
set_option maxHeartbeats 4000000 in
theorem impl_no1 (p : Option Addr) (ws : List Int) (q : Nat) (b : Int) (a : Option Addr) (xs : List Int) (c : Nat) (y : Int) (w : World) (hp : ints.Reads .i64 w p ws) (hx : ints.Reads .i64 w a xs) (hn : ws.length ≤ 1048576) (hm : xs.length ≤ 1048576) (h : Hid (oneB ws b xs = false)) :
    Calls Try.prog 48 #[.agg #[.slice p ws.length q, .int .i64 b], .slice a xs.length c, .int .i64 y] w (RetPBB [] 0 false false w) := by
  have Hhp := Lib.hid hp
  have Hhx := Lib.hid hx
  clear hp hx
  go_enter Try.func48, Try.ntmps48
  go_wp2_with fail
  have x0_0 : (w.alloc (.cells #[.slice p ws.length q, .int .i64 b] 46)).cell? ⟨w.heap.size, 0, none⟩ = some (.slice p ws.length q) := cell_new _ _ _ (by simp) rfl
  have x0_1 : (w.alloc (.cells #[.slice p ws.length q, .int .i64 b] 46)).cell? ⟨w.heap.size, 1, none⟩ = some (.int .i64 b) := cell_new _ _ _ (by simp) rfl
  have HB0 := Lib.hid (below_alloc w (.cells #[.slice p ws.length q, .int .i64 b] 46))
  replace x0_0 := cell_old (.cells #[.slice none 0 0, .int .i64 0] 46) x0_0
  replace x0_1 := cell_old (.cells #[.slice none 0 0, .int .i64 0] 46) x0_1
  have x1_0 : ((w.alloc (.cells #[.slice p ws.length q, .int .i64 b] 46)).alloc (.cells #[.slice none 0 0, .int .i64 0] 46)).cell? ⟨w.heap.size + 1, 0, none⟩ = some (.slice none 0 0) := cell_new _ _ _ (by simp) rfl
  have x1_1 : ((w.alloc (.cells #[.slice p ws.length q, .int .i64 b] 46)).alloc (.cells #[.slice none 0 0, .int .i64 0] 46)).cell? ⟨w.heap.size + 1, 1, none⟩ = some (.int .i64 0) := cell_new _ _ _ (by simp) rfl
  have f1_0 : ((w.alloc (.cells #[.slice p ws.length q, .int .i64 b] 46)).alloc (.cells #[.slice none 0 0, .int .i64 0] 46)).frozen? ⟨w.heap.size + 1, 0, none⟩ = false := fro_new _ _ _ (by simp)
  have f1_1 : ((w.alloc (.cells #[.slice p ws.length q, .int .i64 b] 46)).alloc (.cells #[.slice none 0 0, .int .i64 0] 46)).frozen? ⟨w.heap.size + 1, 1, none⟩ = false := fro_new _ _ _ (by simp)
  replace HB0 := Lib.hid (HB0.out.alloc (by simp) (.cells #[.slice none 0 0, .int .i64 0] 46))
  have s0 : w.heap.size + 2 ≤ ((w.alloc (.cells #[.slice p ws.length q, .int .i64 b] 46)).alloc (.cells #[.slice none 0 0, .int .i64 0] 46)).heap.size := by simp
  generalize hw : ((w.alloc (.cells #[.slice p ws.length q, .int .i64 b] 46)).alloc (.cells #[.slice none 0 0, .int .i64 0] 46)) = w0 at *
  clear hw
  have n0_0 : w.heap.size < w0.heap.size := by omega
  have n0_1 : w.heap.size + 1 < w0.heap.size := by omega
  refine (impl_SideOf_no p ws q b a xs c _ (Hhp.out.below HB0.out) (Hhx.out.below HB0.out) hn hm h).mono ?_
  rintro e w1 ⟨rfl, hb⟩
  have s1 : w0.heap.size ≤ w1.heap.size := hb.size
  have n1_0 : w.heap.size < w1.heap.size := by omega
  have n1_1 : w.heap.size + 1 < w1.heap.size := by omega
  replace x0_0 := cell_below hb x0_0 (by omega)
  replace x0_1 := cell_below hb x0_1 (by omega)
  replace x1_0 := cell_below hb x1_0 (by omega)
  replace x1_1 := cell_below hb x1_1 (by omega)
  replace f1_0 := fro_below hb f1_0 (by omega)
  replace f1_1 := fro_below hb f1_1 (by omega)
  have HB1 := Lib.hid (HB0.out.trans (hb.mono (by omega)))
  clear hb
  go_wp2_with fail
  refine bodyPost_ret (v := .tuple #[.agg #[.slice none 0 0, .int .i64 0], .bool false, .bool false]) (by simp [results, Try.results48, go_sem, x1_0, x1_1]) rfl ⟨_, rfl, OwnI.nil _ _ _, ?_⟩
  first | exact ((HB1.out.setCell (by simp) _).setCell (by simp) _) | exact HB1.out
set_option maxRecDepth 100000 in
set_option maxHeartbeats 4000000 in
theorem impl_no2 (p : Option Addr) (ws : List Int) (q : Nat) (b : Int) (a : Option Addr) (xs : List Int) (c : Nat) (y : Int) (w : World) (hp : ints.Reads .i64 w p ws) (hx : ints.Reads .i64 w a xs) (hn : ws.length ≤ 1048576) (hm : xs.length ≤ 1048576) (h1 : Hid (oneB ws b xs = true)) (h : Hid (labelB y = false)) :
    Calls Try.prog 48 #[.agg #[.slice p ws.length q, .int .i64 b], .slice a xs.length c, .int .i64 y] w (RetPBB [] 0 false false w) := by
  have Hhp := Lib.hid hp
  have Hhx := Lib.hid hx
  clear hp hx
  go_enter Try.func48, Try.ntmps48
  go_wp2_with fail
  have x0_0 : (w.alloc (.cells #[.slice p ws.length q, .int .i64 b] 46)).cell? ⟨w.heap.size, 0, none⟩ = some (.slice p ws.length q) := cell_new _ _ _ (by simp) rfl
  have x0_1 : (w.alloc (.cells #[.slice p ws.length q, .int .i64 b] 46)).cell? ⟨w.heap.size, 1, none⟩ = some (.int .i64 b) := cell_new _ _ _ (by simp) rfl
  have HB0 := Lib.hid (below_alloc w (.cells #[.slice p ws.length q, .int .i64 b] 46))
  replace x0_0 := cell_old (.cells #[.slice none 0 0, .int .i64 0] 46) x0_0
  replace x0_1 := cell_old (.cells #[.slice none 0 0, .int .i64 0] 46) x0_1
  have x1_0 : ((w.alloc (.cells #[.slice p ws.length q, .int .i64 b] 46)).alloc (.cells #[.slice none 0 0, .int .i64 0] 46)).cell? ⟨w.heap.size + 1, 0, none⟩ = some (.slice none 0 0) := cell_new _ _ _ (by simp) rfl
  have x1_1 : ((w.alloc (.cells #[.slice p ws.length q, .int .i64 b] 46)).alloc (.cells #[.slice none 0 0, .int .i64 0] 46)).cell? ⟨w.heap.size + 1, 1, none⟩ = some (.int .i64 0) := cell_new _ _ _ (by simp) rfl
  have f1_0 : ((w.alloc (.cells #[.slice p ws.length q, .int .i64 b] 46)).alloc (.cells #[.slice none 0 0, .int .i64 0] 46)).frozen? ⟨w.heap.size + 1, 0, none⟩ = false := fro_new _ _ _ (by simp)
  have f1_1 : ((w.alloc (.cells #[.slice p ws.length q, .int .i64 b] 46)).alloc (.cells #[.slice none 0 0, .int .i64 0] 46)).frozen? ⟨w.heap.size + 1, 1, none⟩ = false := fro_new _ _ _ (by simp)
  replace HB0 := Lib.hid (HB0.out.alloc (by simp) (.cells #[.slice none 0 0, .int .i64 0] 46))
  have s0 : w.heap.size + 2 ≤ ((w.alloc (.cells #[.slice p ws.length q, .int .i64 b] 46)).alloc (.cells #[.slice none 0 0, .int .i64 0] 46)).heap.size := by simp
  generalize hw : ((w.alloc (.cells #[.slice p ws.length q, .int .i64 b] 46)).alloc (.cells #[.slice none 0 0, .int .i64 0] 46)) = w0 at *
  clear hw
  have n0_0 : w.heap.size < w0.heap.size := by omega
  have n0_1 : w.heap.size + 1 < w0.heap.size := by omega
  refine (impl_SideOf_yes p ws q b a xs c _ (Hhp.out.below HB0.out) (Hhx.out.below HB0.out) hn hm h1).mono ?_
  rintro e w1 ⟨rfl, hb⟩
  have s1 : w0.heap.size ≤ w1.heap.size := hb.size
  have n1_0 : w.heap.size < w1.heap.size := by omega
  have n1_1 : w.heap.size + 1 < w1.heap.size := by omega
  replace x0_0 := cell_below hb x0_0 (by omega)
  replace x0_1 := cell_below hb x0_1 (by omega)
  replace x1_0 := cell_below hb x1_0 (by omega)
  replace x1_1 := cell_below hb x1_1 (by omega)
  replace f1_0 := fro_below hb f1_0 (by omega)
  replace f1_1 := fro_below hb f1_1 (by omega)
  have HB1 := Lib.hid (HB0.out.trans (hb.mono (by omega)))
  clear hb
  go_wp2_with fail
  refine (impl_label y _ false h).mono ?_
  rintro e w' ⟨rfl, rfl⟩
  go_wp2_with fail
  refine bodyPost_ret (v := .tuple #[.agg #[.slice none 0 0, .int .i64 0], .bool false, .bool false]) (by simp [results, Try.results48, go_sem, x1_0, x1_1]) rfl ⟨_, rfl, OwnI.nil _ _ _, ?_⟩
  first | exact ((HB1.out.setCell (by simp) _).setCell (by simp) _) | exact HB1.out
set_option maxRecDepth 100000 in
set_option maxHeartbeats 4000000 in
theorem impl_same (p : Option Addr) (ws : List Int) (q : Nat) (b : Int) (a : Option Addr) (xs : List Int) (c : Nat) (y : Int) (w : World) (hp : ints.Reads .i64 w p ws) (hx : ints.Reads .i64 w a xs) (hn : ws.length ≤ 1048576) (hm : xs.length ≤ 1048576) (h2 : Hid (oneB ws b xs = true)) (h : Hid (labelB y = true)) (hK : Hid (planeB ws b = true)) (hs : side ws b xs = y) :
    Calls Try.prog 48 #[.agg #[.slice p ws.length q, .int .i64 b], .slice a xs.length c, .int .i64 y] w (RetPBB ws b false true w) := by
  have hask : askB ws b xs y = true := by unfold askB; rw [h2.out, h.out]; rfl
  have HFt := Lib.hid (ask_fit hask 0 (.inr rfl))
  have hpos := HFt.out.pos
  have hle := HFt.out.le
  clear hask
  have HA := Lib.hid (show ∀ wa : World, ints.Reads .i64 wa p ws → ints.Reads .i64 wa a xs → Calls Try.prog 110 #[.agg #[.slice p ws.length q, .int .i64 b], .slice a xs.length c, .int .i64 0] wa (planefns.MadeP ws (b) wa) from fun wa h1 h3 => by have := step.impl_added p ws q b a xs c 0 wa h1 h3 HFt.out; rw [added_zero, Int.sub_zero] at this; exact this)
  have g1 : (side ws b xs != y) = false := by rw [hs]; exact bne_self_eq_false y
  clear hs
  have Hhp := Lib.hid hp
  have Hhx := Lib.hid hx
  clear hp hx
  go_enter Try.func48, Try.ntmps48
  go_wp2_with fail
  have x0_0 : (w.alloc (.cells #[.slice p ws.length q, .int .i64 b] 46)).cell? ⟨w.heap.size, 0, none⟩ = some (.slice p ws.length q) := cell_new _ _ _ (by simp) rfl
  have x0_1 : (w.alloc (.cells #[.slice p ws.length q, .int .i64 b] 46)).cell? ⟨w.heap.size, 1, none⟩ = some (.int .i64 b) := cell_new _ _ _ (by simp) rfl
  have HB0 := Lib.hid (below_alloc w (.cells #[.slice p ws.length q, .int .i64 b] 46))
  replace x0_0 := cell_old (.cells #[.slice none 0 0, .int .i64 0] 46) x0_0
  replace x0_1 := cell_old (.cells #[.slice none 0 0, .int .i64 0] 46) x0_1
  have x1_0 : ((w.alloc (.cells #[.slice p ws.length q, .int .i64 b] 46)).alloc (.cells #[.slice none 0 0, .int .i64 0] 46)).cell? ⟨w.heap.size + 1, 0, none⟩ = some (.slice none 0 0) := cell_new _ _ _ (by simp) rfl
  have x1_1 : ((w.alloc (.cells #[.slice p ws.length q, .int .i64 b] 46)).alloc (.cells #[.slice none 0 0, .int .i64 0] 46)).cell? ⟨w.heap.size + 1, 1, none⟩ = some (.int .i64 0) := cell_new _ _ _ (by simp) rfl
  have f1_0 : ((w.alloc (.cells #[.slice p ws.length q, .int .i64 b] 46)).alloc (.cells #[.slice none 0 0, .int .i64 0] 46)).frozen? ⟨w.heap.size + 1, 0, none⟩ = false := fro_new _ _ _ (by simp)
  have f1_1 : ((w.alloc (.cells #[.slice p ws.length q, .int .i64 b] 46)).alloc (.cells #[.slice none 0 0, .int .i64 0] 46)).frozen? ⟨w.heap.size + 1, 1, none⟩ = false := fro_new _ _ _ (by simp)
  replace HB0 := Lib.hid (HB0.out.alloc (by simp) (.cells #[.slice none 0 0, .int .i64 0] 46))
  have s0 : w.heap.size + 2 ≤ ((w.alloc (.cells #[.slice p ws.length q, .int .i64 b] 46)).alloc (.cells #[.slice none 0 0, .int .i64 0] 46)).heap.size := by simp
  generalize hw : ((w.alloc (.cells #[.slice p ws.length q, .int .i64 b] 46)).alloc (.cells #[.slice none 0 0, .int .i64 0] 46)) = w0 at *
  clear hw
  have n0_0 : w.heap.size < w0.heap.size := by omega
  have n0_1 : w.heap.size + 1 < w0.heap.size := by omega
  refine (impl_SideOf_yes p ws q b a xs c _ (Hhp.out.below HB0.out) (Hhx.out.below HB0.out) hn hm h2).mono ?_
  rintro e w1 ⟨rfl, hb⟩
  have s1 : w0.heap.size ≤ w1.heap.size := hb.size
  have n1_0 : w.heap.size < w1.heap.size := by omega
  have n1_1 : w.heap.size + 1 < w1.heap.size := by omega
  replace x0_0 := cell_below hb x0_0 (by omega)
  replace x0_1 := cell_below hb x0_1 (by omega)
  replace x1_0 := cell_below hb x1_0 (by omega)
  replace x1_1 := cell_below hb x1_1 (by omega)
  replace f1_0 := fro_below hb f1_0 (by omega)
  replace f1_1 := fro_below hb f1_1 (by omega)
  have HB1 := Lib.hid (HB0.out.trans (hb.mono (by omega)))
  clear hb
  go_wp2_with fail
  refine (impl_label y _ true h).mono ?_
  rintro e w' ⟨rfl, rfl⟩
  go_wp2_with fail
  refine (HA.out _ (Hhp.out.below HB1.out) (Hhx.out.below HB1.out)).mono ?_
  rintro e w2 ⟨v, rfl, ho, hb⟩
  obtain ⟨g, cap, rfl, _, _⟩ := form ho (by omega)
  have HO := Lib.hid ho
  clear ho
  have s2 : w1.heap.size ≤ w2.heap.size := hb.size
  have n2_0 : w.heap.size < w2.heap.size := by omega
  have n2_1 : w.heap.size + 1 < w2.heap.size := by omega
  replace x0_0 := cell_below hb x0_0 (by omega)
  replace x0_1 := cell_below hb x0_1 (by omega)
  replace x1_0 := cell_below hb x1_0 (by omega)
  replace x1_1 := cell_below hb x1_1 (by omega)
  replace f1_0 := fro_below hb f1_0 (by omega)
  replace f1_1 := fro_below hb f1_1 (by omega)
  have HB2 := Lib.hid (HB1.out.trans (hb.mono (by omega)))
  clear hb
  go_wp2_with fail
  refine (impl_kept_yes (some ⟨g, 0, none⟩) ws cap (b) _ HO.out.reads (by omega) hK).mono ?_
  rintro e w3 ⟨rfl, hb⟩
  have s3 : w2.heap.size ≤ w3.heap.size := hb.size
  have n3_0 : w.heap.size < w3.heap.size := by omega
  have n3_1 : w.heap.size + 1 < w3.heap.size := by omega
  replace x0_0 := cell_below hb x0_0 (by omega)
  replace x0_1 := cell_below hb x0_1 (by omega)
  replace x1_0 := cell_below hb x1_0 (by omega)
  replace x1_1 := cell_below hb x1_1 (by omega)
  replace f1_0 := fro_below hb f1_0 (by omega)
  replace f1_1 := fro_below hb f1_1 (by omega)
  replace HO := Lib.hid (HO.out.below hb)
  have HB3 := Lib.hid (HB2.out.trans (hb.mono (by omega)))
  clear hb
  go_wp2_with fail
  have z0 : (((w3.setCell ⟨w.heap.size + 1, 0, none⟩ (.slice (some ⟨g, 0, none⟩) ws.length cap)).setCell ⟨w.heap.size + 1, 1, none⟩ (.int .i64 (b))).alloc (.cells #[.slice (some ⟨g, 0, none⟩) ws.length cap, .int .i64 (b)] 46)).cell? ⟨w.heap.size + 1, 0, none⟩ = some (.slice (some ⟨g, 0, none⟩) ws.length cap) := cell_old (.cells #[.slice (some ⟨g, 0, none⟩) ws.length cap, .int .i64 (b)] 46) ((World.cell?_setCell_other _ _ _ _ (by simp)).trans (World.cell?_setCell_same _ _ _ x1_0))
  have z1 : (((w3.setCell ⟨w.heap.size + 1, 0, none⟩ (.slice (some ⟨g, 0, none⟩) ws.length cap)).setCell ⟨w.heap.size + 1, 1, none⟩ (.int .i64 (b))).alloc (.cells #[.slice (some ⟨g, 0, none⟩) ws.length cap, .int .i64 (b)] 46)).cell? ⟨w.heap.size + 1, 1, none⟩ = some (.int .i64 (b)) := cell_old (.cells #[.slice (some ⟨g, 0, none⟩) ws.length cap, .int .i64 (b)] 46) (World.cell?_setCell_same _ _ _ ((World.cell?_setCell_other _ _ _ _ (by simp)).trans x1_1))
  refine bodyPost_ret (v := .tuple #[.agg #[.slice (some ⟨g, 0, none⟩) ws.length cap, .int .i64 (b)], .bool false, .bool true]) (by simp [results, Try.results48, go_sem, z0, z1]) rfl ⟨_, rfl, ?_, ?_⟩
  · exact (((HO.out.set (by simp; omega) _).set (by simp; omega) _).below (below_alloc _ (.cells #[.slice (some ⟨g, 0, none⟩) ws.length cap, .int .i64 (b)] 46))).mono (by omega) (by simp; omega)
  · exact ((HB3.out.setCell (by simp) _).setCell (by simp) _).alloc (by simp; omega) _
set_option maxRecDepth 100000 in
set_option maxHeartbeats 4000000 in
theorem impl_out (p : Option Addr) (ws : List Int) (q : Nat) (b : Int) (a : Option Addr) (xs : List Int) (c : Nat) (y : Int) (w : World) (hp : ints.Reads .i64 w p ws) (hx : ints.Reads .i64 w a xs) (hn : ws.length ≤ 1048576) (hm : xs.length ≤ 1048576) (h2 : Hid (oneB ws b xs = true)) (h : Hid (labelB y = true)) (hs : side ws b xs ≠ y) (hK : Hid (planeB (added ws xs y) (b - y) = false)) :
    Calls Try.prog 48 #[.agg #[.slice p ws.length q, .int .i64 b], .slice a xs.length c, .int .i64 y] w (RetPBB [] 0 false false w) := by
  have hask : askB ws b xs y = true := by unfold askB; rw [h2.out, h.out]; rfl
  have HFt := Lib.hid (ask_fit hask y (.inl rfl))
  have hpos := HFt.out.pos
  have hle := HFt.out.le
  clear hask
  have HA := Lib.hid (show ∀ wa : World, ints.Reads .i64 wa p ws → ints.Reads .i64 wa a xs → Calls Try.prog 110 #[.agg #[.slice p ws.length q, .int .i64 b], .slice a xs.length c, .int .i64 y] wa (planefns.MadeP (added ws xs y) (b - y) wa) from fun wa h1 h3 => step.impl_added p ws q b a xs c y wa h1 h3 HFt.out)
  have HLV := Lib.hid (added_length ws xs y)
  have HNZ : ¬ y = 0 := by rcases (labelB_iff _).1 h.out with e | e <;> rw [e] <;> decide
  have gz : (y != 0) = true := by rw [bne_iff_ne]; exact HNZ
  have g1 : (side ws b xs != y) = true := by rw [bne_iff_ne]; exact hs
  clear hs HNZ
  generalize added ws xs y = vs at *
  have Hhp := Lib.hid hp
  have Hhx := Lib.hid hx
  clear hp hx
  go_enter Try.func48, Try.ntmps48
  go_wp2_with fail
  have x0_0 : (w.alloc (.cells #[.slice p ws.length q, .int .i64 b] 46)).cell? ⟨w.heap.size, 0, none⟩ = some (.slice p ws.length q) := cell_new _ _ _ (by simp) rfl
  have x0_1 : (w.alloc (.cells #[.slice p ws.length q, .int .i64 b] 46)).cell? ⟨w.heap.size, 1, none⟩ = some (.int .i64 b) := cell_new _ _ _ (by simp) rfl
  have HB0 := Lib.hid (below_alloc w (.cells #[.slice p ws.length q, .int .i64 b] 46))
  replace x0_0 := cell_old (.cells #[.slice none 0 0, .int .i64 0] 46) x0_0
  replace x0_1 := cell_old (.cells #[.slice none 0 0, .int .i64 0] 46) x0_1
  have x1_0 : ((w.alloc (.cells #[.slice p ws.length q, .int .i64 b] 46)).alloc (.cells #[.slice none 0 0, .int .i64 0] 46)).cell? ⟨w.heap.size + 1, 0, none⟩ = some (.slice none 0 0) := cell_new _ _ _ (by simp) rfl
  have x1_1 : ((w.alloc (.cells #[.slice p ws.length q, .int .i64 b] 46)).alloc (.cells #[.slice none 0 0, .int .i64 0] 46)).cell? ⟨w.heap.size + 1, 1, none⟩ = some (.int .i64 0) := cell_new _ _ _ (by simp) rfl
  have f1_0 : ((w.alloc (.cells #[.slice p ws.length q, .int .i64 b] 46)).alloc (.cells #[.slice none 0 0, .int .i64 0] 46)).frozen? ⟨w.heap.size + 1, 0, none⟩ = false := fro_new _ _ _ (by simp)
  have f1_1 : ((w.alloc (.cells #[.slice p ws.length q, .int .i64 b] 46)).alloc (.cells #[.slice none 0 0, .int .i64 0] 46)).frozen? ⟨w.heap.size + 1, 1, none⟩ = false := fro_new _ _ _ (by simp)
  replace HB0 := Lib.hid (HB0.out.alloc (by simp) (.cells #[.slice none 0 0, .int .i64 0] 46))
  have s0 : w.heap.size + 2 ≤ ((w.alloc (.cells #[.slice p ws.length q, .int .i64 b] 46)).alloc (.cells #[.slice none 0 0, .int .i64 0] 46)).heap.size := by simp
  generalize hw : ((w.alloc (.cells #[.slice p ws.length q, .int .i64 b] 46)).alloc (.cells #[.slice none 0 0, .int .i64 0] 46)) = w0 at *
  clear hw
  have n0_0 : w.heap.size < w0.heap.size := by omega
  have n0_1 : w.heap.size + 1 < w0.heap.size := by omega
  refine (impl_SideOf_yes p ws q b a xs c _ (Hhp.out.below HB0.out) (Hhx.out.below HB0.out) hn hm h2).mono ?_
  rintro e w1 ⟨rfl, hb⟩
  have s1 : w0.heap.size ≤ w1.heap.size := hb.size
  have n1_0 : w.heap.size < w1.heap.size := by omega
  have n1_1 : w.heap.size + 1 < w1.heap.size := by omega
  replace x0_0 := cell_below hb x0_0 (by omega)
  replace x0_1 := cell_below hb x0_1 (by omega)
  replace x1_0 := cell_below hb x1_0 (by omega)
  replace x1_1 := cell_below hb x1_1 (by omega)
  replace f1_0 := fro_below hb f1_0 (by omega)
  replace f1_1 := fro_below hb f1_1 (by omega)
  have HB1 := Lib.hid (HB0.out.trans (hb.mono (by omega)))
  clear hb
  go_wp2_with fail
  refine (impl_label y _ true h).mono ?_
  rintro e w' ⟨rfl, rfl⟩
  go_wp2_with fail
  refine (HA.out _ (Hhp.out.below HB1.out) (Hhx.out.below HB1.out)).mono ?_
  rintro e w2 ⟨v, rfl, ho, hb⟩
  obtain ⟨g, cap, rfl, _, _⟩ := form ho (by have := HLV.out; omega)
  have HO := Lib.hid ho
  clear ho
  have s2 : w1.heap.size ≤ w2.heap.size := hb.size
  have n2_0 : w.heap.size < w2.heap.size := by omega
  have n2_1 : w.heap.size + 1 < w2.heap.size := by omega
  replace x0_0 := cell_below hb x0_0 (by omega)
  replace x0_1 := cell_below hb x0_1 (by omega)
  replace x1_0 := cell_below hb x1_0 (by omega)
  replace x1_1 := cell_below hb x1_1 (by omega)
  replace f1_0 := fro_below hb f1_0 (by omega)
  replace f1_1 := fro_below hb f1_1 (by omega)
  have HB2 := Lib.hid (HB1.out.trans (hb.mono (by omega)))
  clear hb
  go_wp2_with fail
  refine (impl_kept_no (some ⟨g, 0, none⟩) vs cap (b - y) _ HO.out.reads (by have := HLV.out; omega) hK).mono ?_
  rintro e w3 ⟨rfl, hb⟩
  have s3 : w2.heap.size ≤ w3.heap.size := hb.size
  have n3_0 : w.heap.size < w3.heap.size := by omega
  have n3_1 : w.heap.size + 1 < w3.heap.size := by omega
  replace x0_0 := cell_below hb x0_0 (by omega)
  replace x0_1 := cell_below hb x0_1 (by omega)
  replace x1_0 := cell_below hb x1_0 (by omega)
  replace x1_1 := cell_below hb x1_1 (by omega)
  replace f1_0 := fro_below hb f1_0 (by omega)
  replace f1_1 := fro_below hb f1_1 (by omega)
  replace HO := Lib.hid (HO.out.below hb)
  have HB3 := Lib.hid (HB2.out.trans (hb.mono (by omega)))
  clear hb
  go_wp2_with fail
  have z0 : (((w3.setCell ⟨w.heap.size + 1, 0, none⟩ (.slice none 0 0)).setCell ⟨w.heap.size + 1, 1, none⟩ (.int .i64 0)).alloc (.cells #[.slice none 0 0, .int .i64 0] 46)).cell? ⟨w.heap.size + 1, 0, none⟩ = some (.slice none 0 0) := cell_old (.cells #[.slice none 0 0, .int .i64 0] 46) ((World.cell?_setCell_other _ _ _ _ (by simp)).trans (World.cell?_setCell_same _ _ _ x1_0))
  have z1 : (((w3.setCell ⟨w.heap.size + 1, 0, none⟩ (.slice none 0 0)).setCell ⟨w.heap.size + 1, 1, none⟩ (.int .i64 0)).alloc (.cells #[.slice none 0 0, .int .i64 0] 46)).cell? ⟨w.heap.size + 1, 1, none⟩ = some (.int .i64 0) := cell_old (.cells #[.slice none 0 0, .int .i64 0] 46) (World.cell?_setCell_same _ _ _ ((World.cell?_setCell_other _ _ _ _ (by simp)).trans x1_1))
  refine bodyPost_ret (v := .tuple #[.agg #[.slice none 0 0, .int .i64 0], .bool false, .bool false]) (by simp [results, Try.results48, go_sem, z0, z1]) rfl ⟨_, rfl, ?_, ?_⟩
  · exact OwnI.nil _ _ _
  · exact ((HB3.out.setCell (by simp) _).setCell (by simp) _).alloc (by simp; omega) _
set_option maxRecDepth 100000 in
set_option maxHeartbeats 4000000 in
theorem impl_turn (p : Option Addr) (ws : List Int) (q : Nat) (b : Int) (a : Option Addr) (xs : List Int) (c : Nat) (y : Int) (w : World) (hp : ints.Reads .i64 w p ws) (hx : ints.Reads .i64 w a xs) (hn : ws.length ≤ 1048576) (hm : xs.length ≤ 1048576) (h2 : Hid (oneB ws b xs = true)) (h : Hid (labelB y = true)) (hs : side ws b xs ≠ y) (hK : Hid (planeB (added ws xs y) (b - y) = true)) :
    Calls Try.prog 48 #[.agg #[.slice p ws.length q, .int .i64 b], .slice a xs.length c, .int .i64 y] w (RetPBB (added ws xs y) (b - y) true true w) := by
  have hask : askB ws b xs y = true := by unfold askB; rw [h2.out, h.out]; rfl
  have HFt := Lib.hid (ask_fit hask y (.inl rfl))
  have hpos := HFt.out.pos
  have hle := HFt.out.le
  clear hask
  have HA := Lib.hid (show ∀ wa : World, ints.Reads .i64 wa p ws → ints.Reads .i64 wa a xs → Calls Try.prog 110 #[.agg #[.slice p ws.length q, .int .i64 b], .slice a xs.length c, .int .i64 y] wa (planefns.MadeP (added ws xs y) (b - y) wa) from fun wa h1 h3 => step.impl_added p ws q b a xs c y wa h1 h3 HFt.out)
  have HLV := Lib.hid (added_length ws xs y)
  have HNZ : ¬ y = 0 := by rcases (labelB_iff _).1 h.out with e | e <;> rw [e] <;> decide
  have gz : (y != 0) = true := by rw [bne_iff_ne]; exact HNZ
  have g1 : (side ws b xs != y) = true := by rw [bne_iff_ne]; exact hs
  clear hs HNZ
  generalize added ws xs y = vs at *
  have Hhp := Lib.hid hp
  have Hhx := Lib.hid hx
  clear hp hx
  go_enter Try.func48, Try.ntmps48
  go_wp2_with fail
  have x0_0 : (w.alloc (.cells #[.slice p ws.length q, .int .i64 b] 46)).cell? ⟨w.heap.size, 0, none⟩ = some (.slice p ws.length q) := cell_new _ _ _ (by simp) rfl
  have x0_1 : (w.alloc (.cells #[.slice p ws.length q, .int .i64 b] 46)).cell? ⟨w.heap.size, 1, none⟩ = some (.int .i64 b) := cell_new _ _ _ (by simp) rfl
  have HB0 := Lib.hid (below_alloc w (.cells #[.slice p ws.length q, .int .i64 b] 46))
  replace x0_0 := cell_old (.cells #[.slice none 0 0, .int .i64 0] 46) x0_0
  replace x0_1 := cell_old (.cells #[.slice none 0 0, .int .i64 0] 46) x0_1
  have x1_0 : ((w.alloc (.cells #[.slice p ws.length q, .int .i64 b] 46)).alloc (.cells #[.slice none 0 0, .int .i64 0] 46)).cell? ⟨w.heap.size + 1, 0, none⟩ = some (.slice none 0 0) := cell_new _ _ _ (by simp) rfl
  have x1_1 : ((w.alloc (.cells #[.slice p ws.length q, .int .i64 b] 46)).alloc (.cells #[.slice none 0 0, .int .i64 0] 46)).cell? ⟨w.heap.size + 1, 1, none⟩ = some (.int .i64 0) := cell_new _ _ _ (by simp) rfl
  have f1_0 : ((w.alloc (.cells #[.slice p ws.length q, .int .i64 b] 46)).alloc (.cells #[.slice none 0 0, .int .i64 0] 46)).frozen? ⟨w.heap.size + 1, 0, none⟩ = false := fro_new _ _ _ (by simp)
  have f1_1 : ((w.alloc (.cells #[.slice p ws.length q, .int .i64 b] 46)).alloc (.cells #[.slice none 0 0, .int .i64 0] 46)).frozen? ⟨w.heap.size + 1, 1, none⟩ = false := fro_new _ _ _ (by simp)
  replace HB0 := Lib.hid (HB0.out.alloc (by simp) (.cells #[.slice none 0 0, .int .i64 0] 46))
  have s0 : w.heap.size + 2 ≤ ((w.alloc (.cells #[.slice p ws.length q, .int .i64 b] 46)).alloc (.cells #[.slice none 0 0, .int .i64 0] 46)).heap.size := by simp
  generalize hw : ((w.alloc (.cells #[.slice p ws.length q, .int .i64 b] 46)).alloc (.cells #[.slice none 0 0, .int .i64 0] 46)) = w0 at *
  clear hw
  have n0_0 : w.heap.size < w0.heap.size := by omega
  have n0_1 : w.heap.size + 1 < w0.heap.size := by omega
  refine (impl_SideOf_yes p ws q b a xs c _ (Hhp.out.below HB0.out) (Hhx.out.below HB0.out) hn hm h2).mono ?_
  rintro e w1 ⟨rfl, hb⟩
  have s1 : w0.heap.size ≤ w1.heap.size := hb.size
  have n1_0 : w.heap.size < w1.heap.size := by omega
  have n1_1 : w.heap.size + 1 < w1.heap.size := by omega
  replace x0_0 := cell_below hb x0_0 (by omega)
  replace x0_1 := cell_below hb x0_1 (by omega)
  replace x1_0 := cell_below hb x1_0 (by omega)
  replace x1_1 := cell_below hb x1_1 (by omega)
  replace f1_0 := fro_below hb f1_0 (by omega)
  replace f1_1 := fro_below hb f1_1 (by omega)
  have HB1 := Lib.hid (HB0.out.trans (hb.mono (by omega)))
  clear hb
  go_wp2_with fail
  refine (impl_label y _ true h).mono ?_
  rintro e w' ⟨rfl, rfl⟩
  go_wp2_with fail
  refine (HA.out _ (Hhp.out.below HB1.out) (Hhx.out.below HB1.out)).mono ?_
  rintro e w2 ⟨v, rfl, ho, hb⟩
  obtain ⟨g, cap, rfl, _, _⟩ := form ho (by have := HLV.out; omega)
  have HO := Lib.hid ho
  clear ho
  have s2 : w1.heap.size ≤ w2.heap.size := hb.size
  have n2_0 : w.heap.size < w2.heap.size := by omega
  have n2_1 : w.heap.size + 1 < w2.heap.size := by omega
  replace x0_0 := cell_below hb x0_0 (by omega)
  replace x0_1 := cell_below hb x0_1 (by omega)
  replace x1_0 := cell_below hb x1_0 (by omega)
  replace x1_1 := cell_below hb x1_1 (by omega)
  replace f1_0 := fro_below hb f1_0 (by omega)
  replace f1_1 := fro_below hb f1_1 (by omega)
  have HB2 := Lib.hid (HB1.out.trans (hb.mono (by omega)))
  clear hb
  go_wp2_with fail
  refine (impl_kept_yes (some ⟨g, 0, none⟩) vs cap (b - y) _ HO.out.reads (by have := HLV.out; omega) hK).mono ?_
  rintro e w3 ⟨rfl, hb⟩
  have s3 : w2.heap.size ≤ w3.heap.size := hb.size
  have n3_0 : w.heap.size < w3.heap.size := by omega
  have n3_1 : w.heap.size + 1 < w3.heap.size := by omega
  replace x0_0 := cell_below hb x0_0 (by omega)
  replace x0_1 := cell_below hb x0_1 (by omega)
  replace x1_0 := cell_below hb x1_0 (by omega)
  replace x1_1 := cell_below hb x1_1 (by omega)
  replace f1_0 := fro_below hb f1_0 (by omega)
  replace f1_1 := fro_below hb f1_1 (by omega)
  replace HO := Lib.hid (HO.out.below hb)
  have HB3 := Lib.hid (HB2.out.trans (hb.mono (by omega)))
  clear hb
  go_wp2_with fail
  have z0 : (((w3.setCell ⟨w.heap.size + 1, 0, none⟩ (.slice (some ⟨g, 0, none⟩) vs.length cap)).setCell ⟨w.heap.size + 1, 1, none⟩ (.int .i64 (b - y))).alloc (.cells #[.slice (some ⟨g, 0, none⟩) vs.length cap, .int .i64 (b - y)] 46)).cell? ⟨w.heap.size + 1, 0, none⟩ = some (.slice (some ⟨g, 0, none⟩) vs.length cap) := cell_old (.cells #[.slice (some ⟨g, 0, none⟩) vs.length cap, .int .i64 (b - y)] 46) ((World.cell?_setCell_other _ _ _ _ (by simp)).trans (World.cell?_setCell_same _ _ _ x1_0))
  have z1 : (((w3.setCell ⟨w.heap.size + 1, 0, none⟩ (.slice (some ⟨g, 0, none⟩) vs.length cap)).setCell ⟨w.heap.size + 1, 1, none⟩ (.int .i64 (b - y))).alloc (.cells #[.slice (some ⟨g, 0, none⟩) vs.length cap, .int .i64 (b - y)] 46)).cell? ⟨w.heap.size + 1, 1, none⟩ = some (.int .i64 (b - y)) := cell_old (.cells #[.slice (some ⟨g, 0, none⟩) vs.length cap, .int .i64 (b - y)] 46) (World.cell?_setCell_same _ _ _ ((World.cell?_setCell_other _ _ _ _ (by simp)).trans x1_1))
  refine bodyPost_ret (v := .tuple #[.agg #[.slice (some ⟨g, 0, none⟩) vs.length cap, .int .i64 (b - y)], .bool true, .bool true]) (by simp [results, Try.results48, go_sem, z0, z1]) rfl ⟨_, rfl, ?_, ?_⟩
  · exact (((HO.out.set (by simp; omega) _).set (by simp; omega) _).below (below_alloc _ (.cells #[.slice (some ⟨g, 0, none⟩) vs.length cap, .int .i64 (b - y)] 46))).mono (by omega) (by simp; omega)
  · exact ((HB3.out.setCell (by simp) _).setCell (by simp) _).alloc (by simp; omega) _
theorem spec_no (p : Option Addr) (ws : List Int) (q : Nat) (b : Int) (a : Option Addr) (xs : List Int) (c : Nat) (y : Int) (w : World) (hp : ints.Reads .i64 w p ws) (hx : ints.Reads .i64 w a xs) (hn : ws.length ≤ 1048576) (hm : xs.length ≤ 1048576) (h : stB ws b xs y = false) :
    Calls Try.prog 46 #[.agg #[.slice p ws.length q, .int .i64 b], .slice a xs.length c, .int .i64 y] w (RetPBB [] 0 false false w) := by
  cases h2 : oneB ws b xs
  · cases h1 : planeB ws b
    · exact spec_no1 p ws q b a xs c y w hp hx hn hm (Lib.hid h1)
    · exact spec_no2 p ws q b a xs c y w hp hx hn hm (Lib.hid h1) (Lib.hid h2)
  · cases h3 : labelB y
    · exact spec_no3 p ws q b a xs c y w hp hx hn hm (Lib.hid ((oneB_iff _ _ _).1 h2).1) (Lib.hid h2) (Lib.hid h3)
    · have hs : side ws b xs ≠ y := fun hs => by have h4 := ((oneB_iff _ _ _).1 h2).1; rw [stB, askB, h2, h3, (st_same hs).1, (st_same hs).2, h4] at h; cases h
      refine spec_out p ws q b a xs c y w hp hx hn hm (Lib.hid ((oneB_iff _ _ _).1 h2).1) (Lib.hid h2) (Lib.hid h3) hs (Lib.hid ?_)
      rw [stB, askB, h2, h3, (st_turn hs).1, (st_turn hs).2] at h
      simpa using h
theorem spec_yes (p : Option Addr) (ws : List Int) (q : Nat) (b : Int) (a : Option Addr) (xs : List Int) (c : Nat) (y : Int) (w : World) (hp : ints.Reads .i64 w p ws) (hx : ints.Reads .i64 w a xs) (hn : ws.length ≤ 1048576) (hm : xs.length ≤ 1048576) (h : stB ws b xs y = true) :
    Calls Try.prog 46 #[.agg #[.slice p ws.length q, .int .i64 b], .slice a xs.length c, .int .i64 y] w (RetPBB (stW ws b xs y) (stV ws b xs y) (decide (side ws b xs ≠ y)) true w) := by
  have hA : askB ws b xs y = true ∧ planeB (stW ws b xs y) (stV ws b xs y) = true := by simpa [stB] using h
  have h23 : oneB ws b xs = true ∧ labelB y = true := by simpa [askB] using hA.1
  have h1 := ((oneB_iff _ _ _).1 h23.1).1
  by_cases hs : side ws b xs = y
  · rw [(st_same hs).1, (st_same hs).2, show decide (side ws b xs ≠ y) = false from by simp [hs]]
    exact spec_same p ws q b a xs c y w hp hx hn hm (Lib.hid h1) (Lib.hid h23.1) (Lib.hid h23.2) hs
  · have hK := hA.2
    rw [(st_turn hs).1, (st_turn hs).2] at hK
    rw [(st_turn hs).1, (st_turn hs).2, show decide (side ws b xs ≠ y) = true from by simp [hs]]
    exact spec_turn p ws q b a xs c y w hp hx hn hm (Lib.hid h1) (Lib.hid h23.1) (Lib.hid h23.2) hs (Lib.hid hK)
theorem impl_no (p : Option Addr) (ws : List Int) (q : Nat) (b : Int) (a : Option Addr) (xs : List Int) (c : Nat) (y : Int) (w : World) (hp : ints.Reads .i64 w p ws) (hx : ints.Reads .i64 w a xs) (hn : ws.length ≤ 1048576) (hm : xs.length ≤ 1048576) (h : stB ws b xs y = false) :
    Calls Try.prog 48 #[.agg #[.slice p ws.length q, .int .i64 b], .slice a xs.length c, .int .i64 y] w (RetPBB [] 0 false false w) := by
  cases h2 : oneB ws b xs
  · exact impl_no1 p ws q b a xs c y w hp hx hn hm (Lib.hid h2)
  · cases h3 : labelB y
    · exact impl_no2 p ws q b a xs c y w hp hx hn hm (Lib.hid h2) (Lib.hid h3)
    · have hs : side ws b xs ≠ y := fun hs => by have h4 := ((oneB_iff _ _ _).1 h2).1; rw [stB, askB, h2, h3, (st_same hs).1, (st_same hs).2, h4] at h; cases h
      refine impl_out p ws q b a xs c y w hp hx hn hm (Lib.hid h2) (Lib.hid h3) hs (Lib.hid ?_)
      rw [stB, askB, h2, h3, (st_turn hs).1, (st_turn hs).2] at h
      simpa using h
theorem impl_yes (p : Option Addr) (ws : List Int) (q : Nat) (b : Int) (a : Option Addr) (xs : List Int) (c : Nat) (y : Int) (w : World) (hp : ints.Reads .i64 w p ws) (hx : ints.Reads .i64 w a xs) (hn : ws.length ≤ 1048576) (hm : xs.length ≤ 1048576) (h : stB ws b xs y = true) :
    Calls Try.prog 48 #[.agg #[.slice p ws.length q, .int .i64 b], .slice a xs.length c, .int .i64 y] w (RetPBB (stW ws b xs y) (stV ws b xs y) (decide (side ws b xs ≠ y)) true w) := by
  have hA : askB ws b xs y = true ∧ planeB (stW ws b xs y) (stV ws b xs y) = true := by simpa [stB] using h
  have h23 : oneB ws b xs = true ∧ labelB y = true := by simpa [askB] using hA.1
  have h1 := ((oneB_iff _ _ _).1 h23.1).1
  by_cases hs : side ws b xs = y
  · rw [(st_same hs).1, (st_same hs).2, show decide (side ws b xs ≠ y) = false from by simp [hs]]
    exact impl_same p ws q b a xs c y w hp hx hn hm (Lib.hid h23.1) (Lib.hid h23.2) (Lib.hid h1) hs
  · have hK := hA.2
    rw [(st_turn hs).1, (st_turn hs).2] at hK
    rw [(st_turn hs).1, (st_turn hs).2, show decide (side ws b xs ≠ y) = true from by simp [hs]]
    exact impl_turn p ws q b a xs c y w hp hx hn hm (Lib.hid h23.1) (Lib.hid h23.2) hs (Lib.hid hK)
end Go.Proofs.Ytocbklmkphgkeaa.stepperc
