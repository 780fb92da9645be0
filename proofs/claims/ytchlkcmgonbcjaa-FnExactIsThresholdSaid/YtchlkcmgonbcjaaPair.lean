/- The walk of the program's sum of two bit points. -/
import Derived.Test.YtchlkcmgonbcjaaDig
import Derived.Test.YtchlkcmgonbcjaaOwnG
import Derived.Test.YtchlkcmgonbcjaaSetCell
namespace Go.Proofs.Ytchlkcmgonbcjaa.pairw
open Go.RowKit own pp nums bitw dig
set_option linter.unusedVariables false
set_option linter.unusedSimpArgs false

/-- The sum of the digits at a bit. -/
def ds (a b i : Nat) : Int := ((a / 2 ^ i % 2 : Nat) : Int) + ((b / 2 ^ i % 2 : Nat) : Int)
theorem set_arr {w : World} {B k : Nat} {s : Nat → Int} (h : ∀ j, j < 4 → w.cell? ⟨B, j, none⟩ = some (.int .i64 (if j < k then s j else 0))) (hk : k < 4) : ∀ j, j < 4 → (w.setCell ⟨B, k, none⟩ (.int .i64 (s k))).cell? ⟨B, j, none⟩ = some (.int .i64 (if j < k + 1 then s j else 0)) := by
  intro j hj
  by_cases e : j = k
  · subst e
    rw [World.cell?_setCell_same' _ _ _ (by rw [h j hj]; rfl), if_pos (by omega)]
  · rw [World.cell?_setCell_other _ _ _ _ (fun he => e (by have := congrArg Addr.off he; exact this.symm)), h j hj]
    simp only [show (j < k + 1) ↔ (j < k) from by omega]
set_option maxRecDepth 100000 in
set_option maxHeartbeats 4000000 in
theorem pair_sum (a b : Nat) (w : World) (ha : a < 16) (hb : b < 16) :
    Calls Try.prog 47 #[.int .i64 a, .int .i64 b] w (fun e w' => e = .returned (.agg #[.int .i64 (ds a b 0), .int .i64 (ds a b 1), .int .i64 (ds a b 2), .int .i64 (ds a b 3)]) ∧ Below w.heap.size w w') := by
  obtain ⟨w0, hw0⟩ : ∃ w0 : World, w0 = (w.alloc (.cells #[.int .i64 0, .int .i64 0, .int .i64 0, .int .i64 0] 37)).alloc (.cells #[.int .i64 0, .int .i64 0, .int .i64 0, .int .i64 0] 37) := ⟨_, rfl⟩
  have hx : ∀ j, j < 4 → w0.cell? ⟨w.heap.size + 1, j, none⟩ = some (.int .i64 (if j < 0 then ds a b j else 0)) := by
    intro j hj
    rw [hw0]
    have h4 : j = 0 ∨ j = 1 ∨ j = 2 ∨ j = 3 := by omega
    rcases h4 with rfl | rfl | rfl | rfl <;> exact cell_new _ _ _ (by simp) rfl
  have hr : ∀ j, j < 4 → w0.cell? ⟨w.heap.size, j, none⟩ = some (.int .i64 0) := by
    intro j hj
    rw [hw0]
    have h4 : j = 0 ∨ j = 1 ∨ j = 2 ∨ j = 3 := by omega
    rcases h4 with rfl | rfl | rfl | rfl <;> exact cell_old _ (cell_new _ _ _ rfl rfl)
  have hxf : ∀ j, j < 4 → w0.frozen? ⟨w.heap.size + 1, j, none⟩ = false := by
    intro j hj
    rw [hw0]
    exact fro_new _ _ _ (by simp)
  have hrf : ∀ j, j < 4 → w0.frozen? ⟨w.heap.size, j, none⟩ = false := by
    intro j hj
    rw [hw0]
    exact fro_below (below_alloc (w.alloc (.cells #[.int .i64 0, .int .i64 0, .int .i64 0, .int .i64 0] 37)) (.cells #[.int .i64 0, .int .i64 0, .int .i64 0, .int .i64 0] 37)) (fro_new _ _ _ rfl) (by simp)
  have hB0 : Below w.heap.size w w0 := by rw [hw0]; exact (below_alloc w (.cells #[.int .i64 0, .int .i64 0, .int .i64 0, .int .i64 0] 37)).alloc (by simp) (.cells #[.int .i64 0, .int .i64 0, .int .i64 0, .int .i64 0] 37)
  have s0 : w.heap.size + 2 ≤ w0.heap.size := by rw [hw0]; simp
  have HX := Lib.hid hx
  have HR := Lib.hid hr
  have HXF := Lib.hid hxf
  have HRF := Lib.hid hrf
  have HB0 := Lib.hid hB0
  clear hx hr hxf hrf hB0
  go_enter Try.func47, Try.ntmps47
  go_wp2_with fail
  rw [← hw0]
  clear hw0
  go_loopw [8] (fun i wr => ∃ k : Nat, k ≤ 4 ∧ i = .int .i64 k ∧ Hid (∀ j, j < 4 → wr.cell? ⟨w.heap.size + 1, j, none⟩ = some (.int .i64 (if j < k then ds a b j else 0))) ∧ Hid (∀ j, j < 4 → wr.cell? ⟨w.heap.size, j, none⟩ = some (.int .i64 0)) ∧ Hid (∀ j, j < 4 → wr.frozen? ⟨w.heap.size + 1, j, none⟩ = false) ∧ Hid (∀ j, j < 4 → wr.frozen? ⟨w.heap.size, j, none⟩ = false) ∧ w.heap.size + 2 ≤ wr.heap.size ∧ Hid (Below w.heap.size w wr)) (fun i _ => 4 - (intOf i).toNat)
  case atStart => exact ⟨0, by omega, rfl, HX, HR, HXF, HRF, s0, HB0⟩
  case round =>
    obtain ⟨k, hk, rfl, HX, HR, HXF, HRF, s0, HB⟩ := hrel
    by_cases hlt : k < 4
    · have hcell := HX.out k hlt
      rw [if_neg (by omega)] at hcell
      have hfro := HXF.out k hlt
      have HD1 := Lib.hid (fun (wz : World) => dig_any a k wz ha (by omega))
      have HD2 := Lib.hid (fun (wz : World) => dig_any b k wz hb (by omega))
      have HX2 := Lib.hid (set_arr HX.out hlt)
      have HDS := Lib.hid (show ds a b k = ((a / 2 ^ k % 2 : Nat) : Int) + ((b / 2 ^ k % 2 : Nat) : Int) from rfl)
      rw [HDS.out] at HX2
      have h1 : a / 2 ^ k % 2 ≤ 1 := by omega
      have h2 : b / 2 ^ k % 2 ≤ 1 := by omega
      clear HDS
      generalize a / 2 ^ k % 2 = d1 at *
      generalize b / 2 ^ k % 2 = d2 at *
      obtain ⟨W1, hW1⟩ : ∃ W1 : World, W1 = wr.setCell ⟨w.heap.size + 1, k, none⟩ (.int .i64 ((d1 : Int) + (d2 : Int))) := ⟨_, rfl⟩
      have HW := Lib.hid (show (∀ j, j < 4 → W1.cell? ⟨w.heap.size + 1, j, none⟩ = some (.int .i64 (if j < k + 1 then ds a b j else 0))) ∧ (∀ j, j < 4 → W1.cell? ⟨w.heap.size, j, none⟩ = some (.int .i64 0)) ∧ (∀ j, j < 4 → W1.frozen? ⟨w.heap.size + 1, j, none⟩ = false) ∧ (∀ j, j < 4 → W1.frozen? ⟨w.heap.size, j, none⟩ = false) ∧ w.heap.size + 2 ≤ W1.heap.size ∧ Below w.heap.size w W1 from ⟨by rw [hW1]; exact HX2.out, fun j hj => by rw [hW1]; exact cell_set (HR.out j hj) (by simp) _, fun j hj => by rw [hW1, World.frozen?_setCell]; exact HXF.out j hj, fun j hj => by rw [hW1, World.frozen?_setCell]; exact HRF.out j hj, by rw [hW1, size_set]; exact s0, by rw [hW1]; exact HB.out.setCell (by simp) _⟩)
      have HWE := Lib.hid hW1
      clear hW1 HX2 HX HR HXF HRF HB
      go_wp2_with fail
      refine (HD1.out _).mono ?_
      rintro e w' ⟨rfl, hww⟩
      rw [hww]
      clear hww
      go_wp2_with fail
      refine (HD2.out _).mono ?_
      rintro e w' ⟨rfl, hww⟩
      rw [hww]
      clear hww
      go_wp2_with fail
      rw [← HWE.out]
      go_roundw
      case rel => exact ⟨k + 1, by omega, by go_num, Lib.hid HW.out.1, Lib.hid HW.out.2.1, Lib.hid HW.out.2.2.1, Lib.hid HW.out.2.2.2.1, HW.out.2.2.2.2.1, Lib.hid HW.out.2.2.2.2.2⟩
      case measure => simp [intOf]; omega
    · obtain rfl : k = 4 := by omega
      have c0 : wr.cell? ⟨w.heap.size + 1, 0, none⟩ = some (.int .i64 (ds a b 0)) := HX.out 0 (by omega)
      have c1 : wr.cell? ⟨w.heap.size + 1, 1, none⟩ = some (.int .i64 (ds a b 1)) := HX.out 1 (by omega)
      have c2 : wr.cell? ⟨w.heap.size + 1, 2, none⟩ = some (.int .i64 (ds a b 2)) := HX.out 2 (by omega)
      have c3 : wr.cell? ⟨w.heap.size + 1, 3, none⟩ = some (.int .i64 (ds a b 3)) := HX.out 3 (by omega)
      have r0 := HR.out 0 (by omega)
      have r1 := HR.out 1 (by omega)
      have r2 := HR.out 2 (by omega)
      have r3 := HR.out 3 (by omega)
      have f0 := HRF.out 0 (by omega)
      have f1 := HRF.out 1 (by omega)
      have f2 := HRF.out 2 (by omega)
      have f3 := HRF.out 3 (by omega)
      have HV := Lib.hid (show ∀ y0 y1 y2 y3 : Int, y0 = ds a b 0 → y1 = ds a b 1 → y2 = ds a b 2 → y3 = ds a b 3 → Ending.returned (.agg #[.int .i64 y0, .int .i64 y1, .int .i64 y2, .int .i64 y3]) = Ending.returned (.agg #[.int .i64 (ds a b 0), .int .i64 (ds a b 1), .int .i64 (ds a b 2), .int .i64 (ds a b 3)]) from fun _ _ _ _ h0 h1 h2 h3 => by rw [h0, h1, h2, h3])
      obtain ⟨y0, hy0⟩ : ∃ y, y = ds a b 0 := ⟨_, rfl⟩
      obtain ⟨y1, hy1⟩ : ∃ y, y = ds a b 1 := ⟨_, rfl⟩
      obtain ⟨y2, hy2⟩ : ∃ y, y = ds a b 2 := ⟨_, rfl⟩
      obtain ⟨y3, hy3⟩ : ∃ y, y = ds a b 3 := ⟨_, rfl⟩
      replace HV := Lib.hid (HV.out y0 y1 y2 y3 hy0 hy1 hy2 hy3)
      rw [← hy0] at c0
      rw [← hy1] at c1
      rw [← hy2] at c2
      rw [← hy3] at c3
      clear HX HR HXF HRF hy0 hy1 hy2 hy3
      go_wp2_with fail
      refine bodyPost_ret (v := .agg #[.int .i64 y0, .int .i64 y1, .int .i64 y2, .int .i64 y3]) (by simp [results, Try.results47, go_sem, r0, r1, r2, r3]) rfl ⟨HV.out, ?_⟩
      exact ((((HB.out.setCell (Nat.le_refl _) _).setCell (Nat.le_refl _) _).setCell (Nat.le_refl _) _).setCell (Nat.le_refl _) _)
end Go.Proofs.Ytchlkcmgonbcjaa.pairw
