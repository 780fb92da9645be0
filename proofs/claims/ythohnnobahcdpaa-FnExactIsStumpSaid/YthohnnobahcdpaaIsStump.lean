/- The tests of stumps, the model's and the program's. -/
import Derived.Test.YthohnnobahcdpaaPlanes
import Derived.Test.YthohnnobahcdpaaSizeB
namespace Go.Proofs.Ythohnnobahcdpaa.stump
open Go.RowKit own pp nums planes sizeb
set_option linter.unusedVariables false
set_option linter.unusedSimpArgs false

def stumpB (ws : List Int) (b : Int) : Bool := planeB ws b && decide (size ws = 1)
theorem sz_mono (ws : List Int) (k n : Nat) (h : k ≤ n) : szTo ws k ≤ szTo ws n := by
  induction n with
  | zero => obtain rfl : k = 0 := by omega
            exact Int.le_refl _
  | succ n ih =>
    by_cases e : k = n + 1
    · rw [e]; exact Int.le_refl _
    · have := ih (by omega)
      show szTo ws k ≤ szTo ws n + max (ws.getD n 0) (-(ws.getD n 0))
      omega
theorem sz_ge (ws : List Int) (k : Nat) : 0 ≤ szTo ws k := sz_mono ws 0 k (Nat.zero_le _)
theorem sz_big (ws : List Int) (k : Nat) (hk : k < ws.length) (h : inB 1 (ws.getD k 0) = false) : size ws ≠ 1 := by
  have h1 := sz_mono ws (k + 1) ws.length hk
  have h2 := sz_ge ws k
  have h3 : szTo ws (k + 1) = szTo ws k + max (ws.getD k 0) (-(ws.getD k 0)) := rfl
  have h4 : ¬ (-1 ≤ ws.getD k 0 ∧ ws.getD k 0 ≤ 1) := fun e => by rw [(inB_iff _ _).2 e] at h; cases h
  unfold size
  omega
theorem sz_le (ws : List Int) (k : Nat) (h : ∀ j, j < k → inB 1 (ws.getD j 0) = true) : szTo ws k ≤ k := by
  induction k with
  | zero => simp [szTo]
  | succ k ih =>
    have h1 := ih (fun j hj => h j (by omega))
    have h2 := (inB_iff _ _).1 (h k (by omega))
    show szTo ws k + max (ws.getD k 0) (-(ws.getD k 0)) ≤ _
    omega
theorem w99_of {ws : List Int} {b : Int} (h : planeB ws b = true) : W99 ws := fun i hi => numsB_at ((planeB_iff _ _).1 h).2.2.1 i hi

set_option maxRecDepth 100000 in
set_option maxHeartbeats 4000000 in
theorem spec_stump (a : Option Addr) (ws : List Int) (c : Nat) (b : Int) (w : World) (hr : ints.Reads .i64 w a ws) (hn : ws.length ≤ 1048576) (ok : Bool) (h : Hid (stumpB ws b = ok)) :
    Calls Try.prog 62 #[.agg #[.slice a ws.length c, .int .i64 b]] w (RetB ok w) := by
  have HR := Lib.hid hr
  clear hr
  go_enter Try.func62, Try.ntmps62
  obtain ⟨b1, hw1⟩ : ∃ b1 : World, b1 = w.alloc (.cells #[.slice a ws.length c, .int .i64 b] 27) := ⟨_, rfl⟩
  have z1 : b1.heap.size = w.heap.size + 1 := by rw [hw1]; simp
  have x0_0 := (by rw [hw1]; exact cell_new _ _ _ rfl rfl : b1.cell? ⟨w.heap.size, 0, none⟩ = some (.slice a ws.length c))
  have x0_1 := (by rw [hw1]; exact cell_new _ _ _ rfl rfl : b1.cell? ⟨w.heap.size, 1, none⟩ = some (.int .i64 b))
  have HB0 := Lib.hid (show Below w.heap.size w b1 by rw [hw1]; exact (Below.refl w.heap.size w).alloc (Nat.le_refl _) _)
  have s1 : w.heap.size + 1 ≤ b1.heap.size := by omega
  clear z1
  go_wp2_with fail
  rw [← hw1]
  clear hw1
  go_loopw [3, 4] (fun s i wr => ∃ k : Nat, k ≤ ws.length ∧ i = .int .i64 k ∧ s = .int .i64 (szTo ws k) ∧ Hid (∀ j, j < k → inB 1 (ws.getD j 0) = true) ∧ wr = b1) (fun _ i _ => ws.length - (intOf i).toNat)
  case atStart => exact ⟨0, Nat.zero_le _, rfl, rfl, fun j hj => by omega, rfl⟩
  case round =>
    obtain ⟨k, hk, rfl, rfl, hj, hwr⟩ := hrel
    rw [hwr]
    clear hwr wr
    by_cases hlt : k < ws.length
    · obtain ⟨wb, off, hab, hbl, hc⟩ := (HR.out.below HB0.out).at hlt
      subst hab
      have hle := sz_le ws k hj.out
      have hge := sz_ge ws k
      have HS := Lib.hid (show szTo ws (k + 1) = szTo ws k + max (ws.getD k 0) (-(ws.getD k 0)) from rfl)
      have i1 : (0 : Int) ≤ (k : Int) := by omega
      have i2 : (k : Int) < (ws.length : Int) := by omega
      cases hx : inB 1 (ws.getD k 0)
      · have e : ok = false := by rw [← h.out]; unfold stumpB; rw [show decide (size ws = 1) = false from by simpa using sz_big ws k hlt hx, Bool.and_false]
        have h4 : ¬ (-1 ≤ ws.getD k 0 ∧ ws.getD k 0 ≤ 1) := fun e => by rw [(inB_iff _ _).2 e] at hx; cases hx
        clear h hx hj HS
        subst e
        generalize ws.getD k 0 = z at *
        generalize szTo ws k = s at *
        have g1 : (z == 1) = false := by simp; omega
        have g2 : (z == -1) = false := by simp; omega
        have g3 : (z != 0) = true := by simp; omega
        clear h4
        go_wp2_with fail
        go_ret
        exact ⟨rfl, HB0.out⟩
      · have HJ : Hid (∀ j, j < k + 1 → inB 1 (ws.getD j 0) = true) := fun j h => by
          by_cases e : j = k
          · rw [e]; exact hx
          · exact hj.out j (by omega)
        have hz := (inB_iff _ _).1 hx
        clear hx hj
        generalize ws.getD k 0 = z at *
        generalize szTo ws k = s at *
        obtain rfl | rfl | rfl : z = 1 ∨ z = -1 ∨ z = 0 := by omega
        · go_wp2_with fail
          go_roundw
          case rel => exact ⟨k + 1, by omega, by go_num, by rw [HS.out]; rfl, HJ, trivial⟩
          case measure => simp [intOf]; omega
        · go_wp2_with fail
          go_roundw
          case rel => exact ⟨k + 1, by omega, by go_num, by rw [HS.out]; rfl, HJ, trivial⟩
          case measure => simp [intOf]; omega
        · go_wp2_with fail
          go_roundw
          case rel => exact ⟨k + 1, by omega, by go_num, by rw [HS.out, show max (0 : Int) (-0) = 0 from rfl, Int.add_zero], HJ, trivial⟩
          case measure => simp [intOf]; omega
    · obtain rfl : k = ws.length := by omega
      have HE := Lib.hid (show (planeB ws b && (szTo ws ws.length == 1)) = ok by rw [← h.out]; rfl)
      have hle := sz_le ws ws.length hj.out
      clear h hj
      generalize szTo ws ws.length = s at *
      cases hp : planeB ws b
      · have e : ok = false := by rw [← HE.out, hp]; rfl
        have HP := Lib.hid hp
        clear HE hp
        subst e
        go_wp2_with fail
        refine (spec_plane a ws c b _ (HR.out.below HB0.out) hn false HP).mono ?_
        rintro e w1 ⟨rfl, hb⟩
        have HB1 := Lib.hid (HB0.out.trans (hb.mono (by omega)))
        clear hb
        go_wp2_with fail
        go_ret
        exact ⟨rfl, HB1.out⟩
      · have e : (s == 1) = ok := by rw [← HE.out, hp]; rfl
        have HP := Lib.hid hp
        have HEE := Lib.hid (fun (w' : World) (hb : Below w.heap.size w w') => (show RetB ok w (.returned (.bool (s == 1))) w' from ⟨by rw [e], hb⟩))
        clear HE hp e
        go_wp2_with fail
        refine (spec_plane a ws c b _ (HR.out.below HB0.out) hn true HP).mono ?_
        rintro e w1 ⟨rfl, hb⟩
        have HB1 := Lib.hid (HB0.out.trans (hb.mono (by omega)))
        clear hb
        go_wp2_with fail
        go_ret
        exact HEE.out _ HB1.out
set_option maxRecDepth 100000 in
set_option maxHeartbeats 4000000 in
theorem spec_IsStump (a : Option Addr) (ws : List Int) (c : Nat) (b : Int) (w : World) (hr : ints.Reads .i64 w a ws) (hn : ws.length ≤ 1048576) (ok : Bool) (h : Hid (stumpB ws b = ok)) :
    Calls Try.prog 17 #[.agg #[.slice a ws.length c, .int .i64 b]] w (RetB ok w) := by
  have HR := Lib.hid hr
  clear hr
  go_enter Try.func17, Try.ntmps17
  obtain ⟨b1, hw1⟩ : ∃ b1 : World, b1 = w.alloc (.cells #[.slice a ws.length c, .int .i64 b] 27) := ⟨_, rfl⟩
  have z1 : b1.heap.size = w.heap.size + 1 := by rw [hw1]; simp
  have x0_0 := (by rw [hw1]; exact cell_new _ _ _ rfl rfl : b1.cell? ⟨w.heap.size, 0, none⟩ = some (.slice a ws.length c))
  have x0_1 := (by rw [hw1]; exact cell_new _ _ _ rfl rfl : b1.cell? ⟨w.heap.size, 1, none⟩ = some (.int .i64 b))
  have HB0 := Lib.hid (show Below w.heap.size w b1 by rw [hw1]; exact (Below.refl w.heap.size w).alloc (Nat.le_refl _) _)
  have s1 : w.heap.size + 1 ≤ b1.heap.size := by omega
  clear z1
  go_wp2_with fail
  rw [← hw1]
  clear hw1
  refine (spec_stump a ws c b _ (HR.out.below HB0.out) hn ok h).mono ?_
  rintro e w1 ⟨rfl, hb⟩
  have HB1 := Lib.hid (HB0.out.trans (hb.mono (by omega)))
  clear hb
  go_wp2_with fail
  go_ret
  exact ⟨rfl, HB1.out⟩
set_option maxRecDepth 100000 in
set_option maxHeartbeats 4000000 in
theorem impl_IsStump (a : Option Addr) (ws : List Int) (c : Nat) (b : Int) (w : World) (hr : ints.Reads .i64 w a ws) (hn : ws.length ≤ 1048576) (ok : Bool) (h : Hid (stumpB ws b = ok)) :
    Calls Try.prog 19 #[.agg #[.slice a ws.length c, .int .i64 b]] w (RetB ok w) := by
  have HR := Lib.hid hr
  clear hr
  cases hp : planeB ws b
  · have e : ok = false := by rw [← h.out]; unfold stumpB; rw [hp]; rfl
    have HP := Lib.hid hp
    clear h hp
    subst e
    go_enter Try.func19, Try.ntmps19
    obtain ⟨b1, hw1⟩ : ∃ b1 : World, b1 = w.alloc (.cells #[.slice a ws.length c, .int .i64 b] 27) := ⟨_, rfl⟩
    have z1 : b1.heap.size = w.heap.size + 1 := by rw [hw1]; simp
    have x0_0 := (by rw [hw1]; exact cell_new _ _ _ rfl rfl : b1.cell? ⟨w.heap.size, 0, none⟩ = some (.slice a ws.length c))
    have x0_1 := (by rw [hw1]; exact cell_new _ _ _ rfl rfl : b1.cell? ⟨w.heap.size, 1, none⟩ = some (.int .i64 b))
    have HB0 := Lib.hid (show Below w.heap.size w b1 by rw [hw1]; exact (Below.refl w.heap.size w).alloc (Nat.le_refl _) _)
    have s1 : w.heap.size + 1 ≤ b1.heap.size := by omega
    clear z1
    go_wp2_with fail
    rw [← hw1]
    clear hw1
    refine (impl_plane a ws c b _ (HR.out.below HB0.out) hn false HP).mono ?_
    rintro e w1 ⟨rfl, hb⟩
    have HB1 := Lib.hid (HB0.out.trans (hb.mono (by omega)))
    clear hb
    go_wp2_with fail
    go_ret
    exact ⟨rfl, HB1.out⟩
  · have h4 := ((planeB_iff _ _).1 hp).2.1
    have HP := Lib.hid hp
    have HW := Lib.hid (w99_of hp)
    have e : (size ws == 1) = ok := by rw [← h.out]; unfold stumpB; rw [hp]; rfl
    have HEE := Lib.hid (fun (w' : World) (hb : Below w.heap.size w w') => (show RetB ok w (.returned (.bool (size ws == 1))) w' from ⟨by rw [e], hb⟩))
    clear h hp e
    go_enter Try.func19, Try.ntmps19
    obtain ⟨b1, hw1⟩ : ∃ b1 : World, b1 = w.alloc (.cells #[.slice a ws.length c, .int .i64 b] 27) := ⟨_, rfl⟩
    have z1 : b1.heap.size = w.heap.size + 1 := by rw [hw1]; simp
    have x0_0 := (by rw [hw1]; exact cell_new _ _ _ rfl rfl : b1.cell? ⟨w.heap.size, 0, none⟩ = some (.slice a ws.length c))
    have x0_1 := (by rw [hw1]; exact cell_new _ _ _ rfl rfl : b1.cell? ⟨w.heap.size, 1, none⟩ = some (.int .i64 b))
    have HB0 := Lib.hid (show Below w.heap.size w b1 by rw [hw1]; exact (Below.refl w.heap.size w).alloc (Nat.le_refl _) _)
    have s1 : w.heap.size + 1 ≤ b1.heap.size := by omega
    clear z1
    go_wp2_with fail
    rw [← hw1]
    clear hw1
    refine (impl_plane a ws c b _ (HR.out.below HB0.out) hn true HP).mono ?_
    rintro e w1 ⟨rfl, hb⟩
    have x0 := cell_below hb x0_0 (by omega)
    have x1 := cell_below hb x0_1 (by omega)
    have s2 := hb.size
    have HB1 := Lib.hid (HB0.out.trans (hb.mono (by omega)))
    clear hb x0_0 x0_1
    go_wp2_with fail
    refine (impl_size a ws c _ (HR.out.below HB1.out) h4 HW.out).mono ?_
    rintro e w2 ⟨rfl, hb⟩
    have HB2 := Lib.hid (HB1.out.trans (hb.mono (by omega)))
    clear hb
    generalize size ws = s at *
    go_wp2_with fail
    go_ret
    exact HEE.out _ HB2.out
end Go.Proofs.Ythohnnobahcdpaa.stump
