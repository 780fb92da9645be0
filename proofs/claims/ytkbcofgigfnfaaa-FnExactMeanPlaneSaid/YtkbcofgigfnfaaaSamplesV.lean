/- The walks of the model's and the program's test of a sample. -/
import Derived.Test.YtkbcofgigfnfaaaPlanes
import Derived.Test.YtkbcofgigfnfaaaGrid
namespace Go.Proofs.Ytkbcofgigfnfaaa.samplesv
open Go.RowKit own pp nums
set_option linter.unusedVariables false

theorem says_quiet {P : Program} {f : FuncId} {args : Array Value} {w : World} {n : Nat} {ok : Bool} (h : Calls P f args (w.drewN n) (Says ok (w.drewN n))) :
    Calls P f args (w.drewN n) fun e w'' => e = .returned (.bool ok) ∧ ∃ m, w'' = w.drewN m :=
  h.mono fun _ _ ⟨he, hw⟩ => ⟨he, n, hw.symm⟩

set_option maxHeartbeats 400000 in
theorem spec_labels (a : Option Addr) (zs : List Int) (c : Nat) (w : World) (hr : ints.Reads .i64 w a zs) (hn : zs.length ≤ 1048576) (ok : Bool) (h : Hid (labelsB zs = ok)) :
    Calls Try.prog 120 #[.slice a zs.length c] w (Says ok w) := by
  go_enter Try.func120, Try.ntmps120
  go_wp2_with fail
  go_loop [3] (fun i => ∃ k : Nat, k ≤ zs.length ∧ i = .int .i64 k ∧ Hid (∀ j, j < k → labelB (zs.getD j 0) = true)) (fun i => zs.length - (intOf i).toNat)
  case atStart => exact ⟨0, Nat.zero_le _, rfl, fun j hj => by omega⟩
  case round =>
    obtain ⟨k, hk, rfl, hj⟩ := hrel
    by_cases hlt : k < zs.length
    · obtain ⟨b, off, rfl, hb, hc⟩ := hr.at hlt
      cases hx : labelB (zs.getD k 0)
      · have e : ok = false := by rw [← h.out]; exact all_false _ 0 zs k hlt hx
        have hne : ¬ (zs.getD k 0 = 1 ∨ zs.getD k 0 = -1) := fun e => by rw [(labelB_iff _).2 e] at hx; cases hx
        clear h hx
        subst e
        generalize hs : zs.getD k 0 = s at *
        clear hs
        have f1 : (s != 1) = true := by simp; omega
        have f2 : (s != -1) = true := by simp; omega
        clear hne
        go_wp2_with fail
        go_ret
        exact ⟨rfl, rfl⟩
      · have HJ : Hid (∀ j, j < k + 1 → labelB (zs.getD j 0) = true) := fun j h => by
          by_cases e : j = k
          · rw [e]; exact hx
          · exact hj.out j (by omega)
        have hx' := (labelB_iff _).1 hx
        clear hx hj
        generalize hs : zs.getD k 0 = s at *
        clear hs
        rcases hx' with rfl | rfl
        all_goals
          go_wp2_with fail
          go_round
          case rel => exact ⟨k + 1, by omega, by go_num, HJ⟩
          case measure => simp [intOf]; omega
    · have : k = zs.length := by omega
      have e : ok = true := by rw [← h.out]; exact all_true _ 0 zs (fun j hj' => hj.out j (by omega))
      clear h hj
      subst this
      subst e
      go_wp2_with fail
      go_ret
      exact ⟨rfl, rfl⟩
theorem impl_label (x : Int) (w : World) (ok : Bool) (h : Hid (labelB x = ok)) :
    Calls Try.prog 123 #[.int .i64 x] w (Says ok w) := by
  by_cases h1 : x = 1
  · have e : ok = true := by rw [← h.out]; simp [labelB, h1]
    clear h
    subst h1 e
    go_enter Try.func123, Try.ntmps123
    go_wp2_with fail
    go_ret
    exact ⟨rfl, rfl⟩
  · by_cases h2 : x = -1
    · have e : ok = true := by rw [← h.out]; simp [labelB, h2]
      clear h h1
      subst h2 e
      go_enter Try.func123, Try.ntmps123
      go_wp2_with fail
      go_ret
      exact ⟨rfl, rfl⟩
    · have e : ok = false := by rw [← h.out]; simp [labelB, h1, h2]
      have f1 : (x == 1) = false := by simp; omega
      have f2 : (x == -1) = false := by simp; omega
      clear h h1 h2
      subst e
      go_enter Try.func123, Try.ntmps123
      go_wp2_with fail
      go_ret
      exact ⟨rfl, rfl⟩

/-- A row is a point as long as the first one. -/
def rowB (rows : List (List Int)) (r : List Int) : Bool := pointB r && decide (r.length = (rows.getD 0 []).length)
theorem rowsB_eq (rows : List (List Int)) : rowsB rows = rows.all (rowB rows) := rfl

set_option maxRecDepth 100000 in
set_option maxHeartbeats 2000000 in
/-- Behind the first tests: the loop over the rows. -/
theorem spec_sample_loop (a : Option Addr) (rows : List (List Int)) (c : Nat) (a' : Option Addr) (zs : List Int) (c' : Nat) (w : World) (hr : grid.Reads w a rows) (hr' : ints.Reads .i64 w a' zs) (hz : rows.length ≤ 16) (hl : Hid (zs.length = rows.length)) (hm : ∀ r ∈ rows, r.length ≤ 1048576)
    (hL : Hid (labelsB zs = true)) (ok : Bool) (h : Hid (rowsB rows = ok)) :
    Calls Try.prog 70 #[.agg #[.slice a rows.length c, .slice a' zs.length c']] w (RetB ok w) := by
  have hB := below_alloc w (.cells #[.slice a rows.length c, .slice a' zs.length c'] 29)
  have x0 : (w.alloc (.cells #[.slice a rows.length c, .slice a' zs.length c'] 29)).cell? ⟨w.heap.size, 0, none⟩ = some (.slice a rows.length c) := cell_new _ _ _ rfl rfl
  have x1 : (w.alloc (.cells #[.slice a rows.length c, .slice a' zs.length c'] 29)).cell? ⟨w.heap.size, 1, none⟩ = some (.slice a' zs.length c') := cell_new _ _ _ rfl rfl
  have hr1 := hr.below hB
  have hr1' := hr'.below hB
  have HB := Lib.hid hB
  have HM := Lib.hid hm
  have g1 : decide ((16 : Int) < (rows.length : Int)) = false := by simp; omega
  have g2 : ((zs.length : Int) != (rows.length : Int)) = false := by simp [hl.out]
  have hzl : zs.length ≤ 1048576 := by have := hl.out; omega
  clear hB hr hr' hm
  generalize hw : w.alloc (.cells #[.slice a rows.length c, .slice a' zs.length c'] 29) = w0 at *
  have HW := Lib.hid hw
  clear hw
  go_enter Try.func70, Try.ntmps70
  go_wp2_with fail
  rw [HW.out]
  refine (spec_labels a' zs c' _ hr1' hzl true hL).mono ?_
  rintro e w' ⟨rfl, rfl⟩
  clear g1 g2
  go_wp2_with fail
  go_loopw [3] (fun i wr => ∃ k : Nat, k ≤ rows.length ∧ i = .int .i64 k ∧ Hid (∀ j, j < k → rowB rows (rows.getD j []) = true) ∧ wr.cell? ⟨w.heap.size, 0, none⟩ = some (.slice a rows.length c) ∧ wr.cell? ⟨w.heap.size, 1, none⟩ = some (.slice a' zs.length c') ∧ grid.Reads wr a rows ∧ Below w.heap.size w wr) (fun i _ => rows.length - (intOf i).toNat)
  case atStart => exact ⟨0, Nat.zero_le _, rfl, fun j hj => by omega, x0, x1, hr1, HB.out⟩
  case round =>
    obtain ⟨k, hk, rfl, hj, x0, x1, hrw, hbw⟩ := hrel
    have HB := Lib.hid hbw
    have HRW := Lib.hid hrw
    clear hbw
    by_cases hlt : k < rows.length
    · obtain ⟨b, off, p, q, rfl, hb, hc, hpq, hrow⟩ := hrw.at hlt
      obtain ⟨b0, off0, p0, q0, e0, hb0, hc0, hpq0, hrow0⟩ := hrw.at (k := 0) (by omega)
      cases e0
      simp only [Nat.add_zero] at hc0
      have hml : (rows.getD k []).length ≤ 1048576 := HM.out _ (getD_mem rows [] k hlt)
      have hml0 : (rows.getD 0 []).length ≤ 1048576 := HM.out _ (getD_mem rows [] 0 (by omega))
      have HC := Lib.hid (show ∀ (m : Nat) (ok : Bool), Hid (pointB (rows.getD k []) = ok) → Calls Try.prog 80 #[.slice p (rows.getD k []).length q] (wr.drewN m) (Says ok (wr.drewN m)) from fun m ok h => spec_point p _ q (wr.drewN m) hrow hml ok h)
      have HJ := Lib.hid (show rowB rows (rows.getD k []) = true → ∀ j, j < k + 1 → rowB rows (rows.getD j []) = true from fun hx j h => by
          by_cases e : j = k
          · rw [e]; exact hx
          · exact hj.out j (by omega))
      have HN := Lib.hid (show rowB rows (rows.getD k []) = false → rowsB rows = false from fun hx => all_false _ [] rows k hlt hx)
      have HR := Lib.hid (show rowB rows (rows.getD k []) = (pointB (rows.getD k []) && decide ((rows.getD k []).length = (rows.getD 0 []).length)) from rfl)
      clear hj hrow hrow0 hpq hpq0 hrw
      have i1 : (0 : Int) ≤ (k : Int) := by omega
      have i2 : (k : Int) < (rows.length : Int) := by omega
      have i3 : (0 : Int) < (rows.length : Int) := by omega
      have i4 : 0 < rows.length := by omega
      generalize rowB rows (rows.getD k []) = rb at *
      generalize rows.getD k [] = r at *
      generalize rows.getD 0 [] = r0 at *
      cases hp : pointB r
      · have e : ok = false := by rw [← h.out]; exact HN.out (by rw [HR.out, hp]; rfl)
        have HP := Lib.hid hp
        clear h hp
        subst e
        go_wp2_with fail
        go_quiet ((go_at_call 80; exact says_quiet (HC.out _ false HP)))
        go_wp2_with fail
        go_ret
        exact ⟨rfl, ints.below_drewN HB.out _⟩
      · by_cases hll : r.length = r0.length
        · have g1 : ((r.length : Int) != (r0.length : Int)) = false := by simp [hll]
          have HP := Lib.hid hp
          have HJ' := Lib.hid (HJ.out (by rw [HR.out, hp, hll]; simp))
          clear hp hll
          go_wp2_with fail
          go_quiet ((go_at_call 80; exact says_quiet (HC.out _ true HP)))
          go_wp2_with fail
          go_roundw
          case rel => exact ⟨k + 1, by omega, by go_num, HJ', x0, x1, HRW.out, ints.below_drewN HB.out _⟩
          case measure => simp [intOf]; omega
        · have g1 : ((r.length : Int) != (r0.length : Int)) = true := by simp; omega
          have e : ok = false := by rw [← h.out]; exact HN.out (by rw [HR.out]; simp [hll])
          have HP := Lib.hid hp
          clear h hp hll
          subst e
          go_wp2_with fail
          go_quiet ((go_at_call 80; exact says_quiet (HC.out _ true HP)))
          go_wp2_with fail
          go_ret
          exact ⟨rfl, ints.below_drewN HB.out _⟩
    · have : k = rows.length := by omega
      have e : ok = true := by rw [← h.out]; exact all_true _ [] rows (fun j hj' => hj.out j (by omega))
      clear h hj
      subst e
      clear hrw
      go_wp2_with fail
      go_ret
      exact ⟨rfl, HB.out⟩
end Go.Proofs.Ytkbcofgigfnfaaa.samplesv
