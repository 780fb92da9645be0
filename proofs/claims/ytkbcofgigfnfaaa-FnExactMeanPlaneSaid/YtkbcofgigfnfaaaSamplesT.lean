/- The whole of the model's and the program's test of a sample. -/
import Derived.Test.YtkbcofgigfnfaaaSamplesV
namespace Go.Proofs.Ytkbcofgigfnfaaa.samplest
open Go.RowKit own pp nums samplesv
set_option linter.unusedVariables false

set_option maxHeartbeats 1000000 in
theorem spec_sample (a : Option Addr) (rows : List (List Int)) (c : Nat) (a' : Option Addr) (zs : List Int) (c' : Nat) (w : World) (hr : grid.Reads w a rows) (hq : ints.Reads .i64 w a' zs) (hn : rows.length ≤ 1048576) (hz : zs.length ≤ 1048576) (hm : ∀ r ∈ rows, r.length ≤ 1048576) (ok : Bool) (h : Hid (sampleB rows zs = ok)) :
    Calls Try.prog 70 #[.agg #[.slice a rows.length c, .slice a' zs.length c']] w (RetB ok w) := by
  by_cases h16 : (16 : Int) < (rows.length : Int)
  · have e : ok = false := by rw [← h.out]; simp [sampleB]; omega
    have g1 : decide ((16 : Int) < (rows.length : Int)) = true := by simpa using h16
    clear h h16
    subst e
    have Hhr := Lib.hid hr
    have Hhq := Lib.hid hq
    have Hhm := Lib.hid hm
    clear hr hq hm
    go_enter Try.func70, Try.ntmps70
    go_wp2_with fail
    have x0_0 : (w.alloc (.cells #[.slice a rows.length c, .slice a' zs.length c'] 29)).cell? ⟨w.heap.size, 0, none⟩ = some (.slice a rows.length c) := cell_new _ _ _ (by simp) rfl
    have x0_1 : (w.alloc (.cells #[.slice a rows.length c, .slice a' zs.length c'] 29)).cell? ⟨w.heap.size, 1, none⟩ = some (.slice a' zs.length c') := cell_new _ _ _ (by simp) rfl
    have HB0 := Lib.hid (below_alloc w (.cells #[.slice a rows.length c, .slice a' zs.length c'] 29))
    have s0 : w.heap.size + 1 ≤ (w.alloc (.cells #[.slice a rows.length c, .slice a' zs.length c'] 29)).heap.size := by simp
    generalize hw : (w.alloc (.cells #[.slice a rows.length c, .slice a' zs.length c'] 29)) = w0 at *
    clear hw
    have n0_0 : w.heap.size < w0.heap.size := by omega
    go_ret
    exact ⟨rfl, HB0.out⟩
  by_cases hl : zs.length = rows.length
  · cases hx : labelsB zs
    · have e : ok = false := by rw [← h.out]; simp [sampleB, hx]
      have HX := Lib.hid hx
      have g1 : decide ((16 : Int) < (rows.length : Int)) = false := by simpa using h16
      have g2 : ((zs.length : Int) != (rows.length : Int)) = false := by simp [hl]
      have HL := Lib.hid hl
      clear h h16 hx hl
      subst e
      have Hhr := Lib.hid hr
      have Hhq := Lib.hid hq
      have Hhm := Lib.hid hm
      clear hr hq hm
      go_enter Try.func70, Try.ntmps70
      go_wp2_with fail
      have x0_0 : (w.alloc (.cells #[.slice a rows.length c, .slice a' zs.length c'] 29)).cell? ⟨w.heap.size, 0, none⟩ = some (.slice a rows.length c) := cell_new _ _ _ (by simp) rfl
      have x0_1 : (w.alloc (.cells #[.slice a rows.length c, .slice a' zs.length c'] 29)).cell? ⟨w.heap.size, 1, none⟩ = some (.slice a' zs.length c') := cell_new _ _ _ (by simp) rfl
      have HB0 := Lib.hid (below_alloc w (.cells #[.slice a rows.length c, .slice a' zs.length c'] 29))
      have s0 : w.heap.size + 1 ≤ (w.alloc (.cells #[.slice a rows.length c, .slice a' zs.length c'] 29)).heap.size := by simp
      generalize hw : (w.alloc (.cells #[.slice a rows.length c, .slice a' zs.length c'] 29)) = w0 at *
      clear hw
      have n0_0 : w.heap.size < w0.heap.size := by omega
      refine (spec_labels a' zs c' _ (Hhq.out.below HB0.out) hz false HX).mono ?_
      rintro e w' ⟨rfl, rfl⟩
      go_wp2_with fail
      go_ret
      exact ⟨rfl, HB0.out⟩
    · exact spec_sample_loop a rows c a' zs c' w hr hq (by omega) (Lib.hid hl) hm (Lib.hid hx) ok (Lib.hid (by rw [← h.out]; simp [sampleB, hx, hl, show rows.length ≤ 16 by omega]))
  · have e : ok = false := by rw [← h.out]; simp [sampleB, hl]
    have g1 : decide ((16 : Int) < (rows.length : Int)) = false := by simpa using h16
    have g2 : ((zs.length : Int) != (rows.length : Int)) = true := by simp; omega
    have HL := Lib.hid hl
    clear h h16 hl
    subst e
    have Hhr := Lib.hid hr
    have Hhq := Lib.hid hq
    have Hhm := Lib.hid hm
    clear hr hq hm
    go_enter Try.func70, Try.ntmps70
    go_wp2_with fail
    have x0_0 : (w.alloc (.cells #[.slice a rows.length c, .slice a' zs.length c'] 29)).cell? ⟨w.heap.size, 0, none⟩ = some (.slice a rows.length c) := cell_new _ _ _ (by simp) rfl
    have x0_1 : (w.alloc (.cells #[.slice a rows.length c, .slice a' zs.length c'] 29)).cell? ⟨w.heap.size, 1, none⟩ = some (.slice a' zs.length c') := cell_new _ _ _ (by simp) rfl
    have HB0 := Lib.hid (below_alloc w (.cells #[.slice a rows.length c, .slice a' zs.length c'] 29))
    have s0 : w.heap.size + 1 ≤ (w.alloc (.cells #[.slice a rows.length c, .slice a' zs.length c'] 29)).heap.size := by simp
    generalize hw : (w.alloc (.cells #[.slice a rows.length c, .slice a' zs.length c'] 29)) = w0 at *
    clear hw
    have n0_0 : w.heap.size < w0.heap.size := by omega
    go_ret
    exact ⟨rfl, HB0.out⟩
set_option maxRecDepth 100000 in
set_option maxHeartbeats 2000000 in
theorem impl_sample (a : Option Addr) (rows : List (List Int)) (c : Nat) (a' : Option Addr) (zs : List Int) (c' : Nat) (w : World) (hr : grid.Reads w a rows) (hq : ints.Reads .i64 w a' zs) (hn : rows.length ≤ 1048576) (hz : zs.length ≤ 1048576) (hm : ∀ r ∈ rows, r.length ≤ 1048576) (ok : Bool) (h : Hid (sampleB rows zs = ok)) :
    Calls Try.prog 72 #[.agg #[.slice a rows.length c, .slice a' zs.length c']] w (RetB ok w) := by
  by_cases h16 : (16 : Int) < (rows.length : Int)
  · have e : ok = false := by rw [← h.out]; simp [sampleB]; omega
    have g1 : decide ((16 : Int) < (rows.length : Int)) = true := by simpa using h16
    clear h h16
    subst e
    have Hhr := Lib.hid hr
    have Hhq := Lib.hid hq
    have Hhm := Lib.hid hm
    clear hr hq hm
    go_enter Try.func72, Try.ntmps72
    go_wp2_with fail
    have x0_0 : (w.alloc (.cells #[.slice a rows.length c, .slice a' zs.length c'] 29)).cell? ⟨w.heap.size, 0, none⟩ = some (.slice a rows.length c) := cell_new _ _ _ (by simp) rfl
    have x0_1 : (w.alloc (.cells #[.slice a rows.length c, .slice a' zs.length c'] 29)).cell? ⟨w.heap.size, 1, none⟩ = some (.slice a' zs.length c') := cell_new _ _ _ (by simp) rfl
    have HB0 := Lib.hid (below_alloc w (.cells #[.slice a rows.length c, .slice a' zs.length c'] 29))
    have s0 : w.heap.size + 1 ≤ (w.alloc (.cells #[.slice a rows.length c, .slice a' zs.length c'] 29)).heap.size := by simp
    generalize hw : (w.alloc (.cells #[.slice a rows.length c, .slice a' zs.length c'] 29)) = w0 at *
    clear hw
    have n0_0 : w.heap.size < w0.heap.size := by omega
    go_ret
    exact ⟨rfl, HB0.out⟩
  by_cases hl : zs.length = rows.length
  · have g1 : decide ((16 : Int) < (rows.length : Int)) = false := by simpa using h16
    have g2 : ((zs.length : Int) != (rows.length : Int)) = false := by simp [hl]
    have HL := Lib.hid hl
    have HH := Lib.hid (show (labelsB zs && rowsB rows) = ok by rw [← h.out]; simp [sampleB, hl, show rows.length ≤ 16 by omega])
    clear h h16 hl
    have Hhr := Lib.hid hr
    have Hhq := Lib.hid hq
    have Hhm := Lib.hid hm
    clear hr hq hm
    go_enter Try.func72, Try.ntmps72
    go_wp2_with fail
    have x0_0 : (w.alloc (.cells #[.slice a rows.length c, .slice a' zs.length c'] 29)).cell? ⟨w.heap.size, 0, none⟩ = some (.slice a rows.length c) := cell_new _ _ _ (by simp) rfl
    have x0_1 : (w.alloc (.cells #[.slice a rows.length c, .slice a' zs.length c'] 29)).cell? ⟨w.heap.size, 1, none⟩ = some (.slice a' zs.length c') := cell_new _ _ _ (by simp) rfl
    have HB0 := Lib.hid (below_alloc w (.cells #[.slice a rows.length c, .slice a' zs.length c'] 29))
    have s0 : w.heap.size + 1 ≤ (w.alloc (.cells #[.slice a rows.length c, .slice a' zs.length c'] 29)).heap.size := by simp
    generalize hw : (w.alloc (.cells #[.slice a rows.length c, .slice a' zs.length c'] 29)) = w0 at *
    clear hw
    have n0_0 : w.heap.size < w0.heap.size := by omega
    clear g1 g2
    have hrw := Hhr.out.below HB0.out
    have hqw := Hhq.out.below HB0.out
    go_loop [21] (fun i => ∃ k : Nat, k ≤ rows.length ∧ i = .int .i64 k ∧ Hid (∀ j, j < k → rowB rows (rows.getD j []) = true ∧ labelB (zs.getD j 0) = true)) (fun i => rows.length - (intOf i).toNat)
    case atStart => exact ⟨0, Nat.zero_le _, rfl, fun j hj => by omega⟩
    case round =>
      obtain ⟨k, hk, rfl, hj⟩ := hrel
      by_cases hlt : k < rows.length
      · obtain ⟨b, off, p, q, rfl, hb, hc, hpq, hrow⟩ := hrw.at hlt
        obtain ⟨b0, off0, p0, q0, e0, hb0, hc0, hpq0, hrow0⟩ := hrw.at (k := 0) (by omega)
        cases e0
        simp only [Nat.add_zero] at hc0
        obtain ⟨b1, off1, rfl, hb1, hc1⟩ := hqw.at (k := k) (by have := HL.out; omega)
        have hml : (rows.getD k []).length ≤ 1048576 := Hhm.out _ (getD_mem rows [] k hlt)
        have hml0 : (rows.getD 0 []).length ≤ 1048576 := Hhm.out _ (getD_mem rows [] 0 (by omega))
        have HC := Lib.hid (show ∀ (ok : Bool), Hid (pointB (rows.getD k []) = ok) → Calls Try.prog 122 #[.slice p (rows.getD k []).length q] w0 (Says ok w0) from fun ok h => impl_point p _ q _ hrow hml ok h)
        have HJ := Lib.hid (show rowB rows (rows.getD k []) = true → labelB (zs.getD k 0) = true → ∀ j, j < k + 1 → rowB rows (rows.getD j []) = true ∧ labelB (zs.getD j 0) = true from fun hx hy j h => by
            by_cases e : j = k
            · rw [e]; exact ⟨hx, hy⟩
            · exact hj.out j (by omega))
        have HN1 := Lib.hid (show rowB rows (rows.getD k []) = false → rowsB rows = false from fun hx => all_false _ [] rows k hlt hx)
        have HN2 := Lib.hid (show labelB (zs.getD k 0) = false → labelsB zs = false from fun hx => all_false _ 0 zs k (by have := HL.out; omega) hx)
        have HR := Lib.hid (show rowB rows (rows.getD k []) = (pointB (rows.getD k []) && decide ((rows.getD k []).length = (rows.getD 0 []).length)) from rfl)
        clear hj hrow hrow0 hpq hpq0 hrw hqw
        have i1 : (0 : Int) ≤ (k : Int) := by omega
        have i2 : (k : Int) < (rows.length : Int) := by omega
        have i3 : (0 : Int) < (rows.length : Int) := by omega
        have i4 : 0 < rows.length := by omega
        have i5 : (k : Int) < (zs.length : Int) := by have := HL.out; omega
        generalize rowB rows (rows.getD k []) = rb at *
        generalize rows.getD k [] = r at *
        generalize rows.getD 0 [] = r0 at *
        generalize zs.getD k 0 = z at *
        cases hp : pointB r
        · have e : ok = false := by rw [← HH.out, HN1.out (by rw [HR.out, hp]; rfl)]; simp
          have HP := Lib.hid hp
          clear HH hp
          subst e
          go_wp2_with fail
          refine (HC.out false HP).mono ?_
          rintro e w' ⟨rfl, rfl⟩
          go_wp2_with fail
          go_ret
          exact ⟨rfl, HB0.out⟩
        · by_cases hll : r.length = r0.length
          · have g1 : ((r.length : Int) != (r0.length : Int)) = false := by simp [hll]
            have HP := Lib.hid hp
            have HX := Lib.hid (show rb = true by rw [HR.out, hp, hll]; simp)
            clear hp hll
            cases hy : labelB z
            · have e : ok = false := by rw [← HH.out, HN2.out hy]; simp
              have HY := Lib.hid hy
              clear HH hy
              subst e
              go_wp2_with fail
              refine (HC.out true HP).mono ?_
              rintro e w' ⟨rfl, rfl⟩
              go_wp2_with fail
              refine (impl_label z _ false HY).mono ?_
              rintro e w' ⟨rfl, rfl⟩
              go_wp2_with fail
              go_ret
              exact ⟨rfl, HB0.out⟩
            · have HY := Lib.hid hy
              have HJ' := Lib.hid (HJ.out HX.out hy)
              clear hy
              go_wp2_with fail
              refine (HC.out true HP).mono ?_
              rintro e w' ⟨rfl, rfl⟩
              go_wp2_with fail
              refine (impl_label z _ true HY).mono ?_
              rintro e w' ⟨rfl, rfl⟩
              go_wp2_with fail
              go_round
              case rel => exact ⟨k + 1, by omega, by go_num, HJ'⟩
              case measure => simp [intOf]; omega
          · have g1 : ((r.length : Int) != (r0.length : Int)) = true := by simp; omega
            have e : ok = false := by rw [← HH.out, HN1.out (by rw [HR.out]; simp [hll])]; simp
            have HP := Lib.hid hp
            clear HH hp hll
            subst e
            go_wp2_with fail
            refine (HC.out true HP).mono ?_
            rintro e w' ⟨rfl, rfl⟩
            go_wp2_with fail
            go_ret
            exact ⟨rfl, HB0.out⟩
      · have : k = rows.length := by omega
        have e1 : rowsB rows = true := all_true _ [] rows (fun j hj' => (hj.out j (by omega)).1)
        have e2 : labelsB zs = true := all_true _ 0 zs (fun j hj' => (hj.out j (by have := HL.out; omega)).2)
        have e : ok = true := by rw [← HH.out, e1, e2]; rfl
        clear HH hj e1 e2 hrw hqw
        subst e
        go_wp2_with fail
        go_ret
        exact ⟨rfl, HB0.out⟩
  · have e : ok = false := by rw [← h.out]; simp [sampleB, hl]
    have g1 : decide ((16 : Int) < (rows.length : Int)) = false := by simpa using h16
    have g2 : ((zs.length : Int) != (rows.length : Int)) = true := by simp; omega
    have HL := Lib.hid hl
    clear h h16 hl
    subst e
    have Hhr := Lib.hid hr
    have Hhq := Lib.hid hq
    have Hhm := Lib.hid hm
    clear hr hq hm
    go_enter Try.func72, Try.ntmps72
    go_wp2_with fail
    have x0_0 : (w.alloc (.cells #[.slice a rows.length c, .slice a' zs.length c'] 29)).cell? ⟨w.heap.size, 0, none⟩ = some (.slice a rows.length c) := cell_new _ _ _ (by simp) rfl
    have x0_1 : (w.alloc (.cells #[.slice a rows.length c, .slice a' zs.length c'] 29)).cell? ⟨w.heap.size, 1, none⟩ = some (.slice a' zs.length c') := cell_new _ _ _ (by simp) rfl
    have HB0 := Lib.hid (below_alloc w (.cells #[.slice a rows.length c, .slice a' zs.length c'] 29))
    have s0 : w.heap.size + 1 ≤ (w.alloc (.cells #[.slice a rows.length c, .slice a' zs.length c'] 29)).heap.size := by simp
    generalize hw : (w.alloc (.cells #[.slice a rows.length c, .slice a' zs.length c'] 29)) = w0 at *
    clear hw
    have n0_0 : w.heap.size < w0.heap.size := by omega
    go_ret
    exact ⟨rfl, HB0.out⟩
end Go.Proofs.Ytkbcofgigfnfaaa.samplest
