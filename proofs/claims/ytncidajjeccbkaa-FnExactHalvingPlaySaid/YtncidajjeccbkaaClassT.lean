/- The walks of the tests of a class with a set of its places. -/
import Derived.Test.YtncidajjeccbkaaClassS
import Derived.Test.YtncidajjeccbkaaClassI
import Derived.Test.YtncidajjeccbkaaRising
namespace Go.Proofs.Ytncidajjeccbkaa.classt
open Go.RowKit own pp nums samplesv setcmp setord cls classs classi rising
set_option linter.unusedVariables false
set_option linter.unusedSimpArgs false

/-- A class and a set of its places. -/
def setB (rows : List (List Int)) (zs : List Int) : Bool := classB rows && risesB ((rows.getD 0 []).length : Int) zs
theorem setB_iff (rows : List (List Int)) (zs : List Int) : setB rows zs = true ↔ classB rows = true ∧ risesB ((rows.getD 0 []).length : Int) zs = true := by simp [setB]
theorem ex_below {w w' : World} (h : ∃ m, w' = w.drewN m) : Below w.heap.size w w' := by
  obtain ⟨m, rfl⟩ := h
  exact ints.below_drewN (Below.refl _ _) _
/-- The first row of a class in memory. -/
theorem row0 {w : World} {a : Option Addr} {rows : List (List Int)} (hr : grid.Reads w a rows) (h : classB rows = true) : ∃ b off p c, a = some ⟨b, off, none⟩ ∧ w.cell? ⟨b, off, none⟩ = some (.slice p (rows.getD 0 []).length c) ∧ 0 < rows.length ∧ (rows.getD 0 []).length ≤ 8 := by
  have h1 := ((class_iff rows).1 h).1
  obtain ⟨b, off, p, c, e, _, hc, _, _⟩ := hr.at (k := 0) (by omega)
  rw [Nat.add_zero] at hc
  exact ⟨b, off, p, c, e, hc, h1, (cls_of h).m8⟩
set_option maxRecDepth 100000 in
set_option maxHeartbeats 2000000 in
theorem spec_set (a : Option Addr) (rows : List (List Int)) (c : Nat) (a' : Option Addr) (zs : List Int) (c' : Nat) (w : World) (hr : grid.Reads w a rows) (hq : ints.Reads .i64 w a' zs) (hn : rows.length ≤ 1048576) (hm : ∀ r ∈ rows, r.length ≤ 1048576) (hz : zs.length ≤ 1048576) (ok : Bool) (h : Hid (setB rows zs = ok)) :
    Calls Try.prog 59 #[.slice a rows.length c, .slice a' zs.length c'] w (fun e w' => e = .returned (.bool ok) ∧ ∃ m, w' = w.drewN m) := by
  cases hk : classB rows
  · have HC := Lib.hid (spec_class a rows c w hr hn hm false (Lib.hid hk))
    obtain rfl : ok = false := by rw [← h.out]; unfold setB; rw [hk]; rfl
    clear hr hq hm h hk
    go_enter Try.func59, Try.ntmps59
    go_wp2_with fail
    refine HC.out.mono ?_
    rintro e w' ⟨rfl, m, rfl⟩
    go_wp2_with fail
    go_ret
    exact ⟨rfl, _, rfl⟩
  · have HC := Lib.hid (spec_class a rows c w hr hn hm true (Lib.hid hk))
    obtain ⟨b0, off0, p0, q0, rfl, hc0, hlen, h8⟩ := row0 hr hk
    have HR := Lib.hid (fun (m : Nat) => spec_rising a' zs c' ((rows.getD 0 []).length : Int) (w.drewN m) hq hz ok (Lib.hid (by rw [← h.out]; unfold setB; rw [hk, Bool.true_and])))
    have i3 : (0 : Int) < (rows.length : Int) := by omega
    have iw : IntKind.i64.wrap (((rows.getD 0 []).length : Int) - 1) = ((rows.getD 0 []).length : Int) - 1 := IntWalk.i64_in _ (by omega)
    clear hr hq hm h hk
    generalize rows.getD 0 [] = r0 at *
    go_enter Try.func59, Try.ntmps59
    go_wp2_with fail
    refine HC.out.mono ?_
    rintro e w' ⟨rfl, m, rfl⟩
    have hc1 : (w.drewN m).cell? ⟨b0, off0, none⟩ = some (.slice p0 r0.length q0) := hc0
    go_wp2_with fail
    refine (HR.out m).mono ?_
    rintro e w' ⟨rfl, m2, rfl⟩
    go_wp2_with fail
    go_ret
    exact ⟨rfl, _, rfl⟩
set_option maxRecDepth 100000 in
set_option maxHeartbeats 2000000 in
theorem impl_set (a : Option Addr) (rows : List (List Int)) (c : Nat) (a' : Option Addr) (zs : List Int) (c' : Nat) (w : World) (hr : grid.Reads w a rows) (hq : ints.Reads .i64 w a' zs) (hn : rows.length ≤ 1048576) (hm : ∀ r ∈ rows, r.length ≤ 1048576) (hz : zs.length ≤ 1048576) (ok : Bool) (h : Hid (setB rows zs = ok)) :
    Calls Try.prog 61 #[.slice a rows.length c, .slice a' zs.length c'] w (fun e w' => e = .returned (.bool ok) ∧ ∃ m, w' = w.drewN m) := by
  cases hk : classB rows
  · have HC := Lib.hid (impl_class a rows c w hr hn hm false (Lib.hid hk))
    obtain rfl : ok = false := by rw [← h.out]; unfold setB; rw [hk]; rfl
    clear hr hq hm h hk
    go_enter Try.func61, Try.ntmps61
    go_wp2_with fail
    refine HC.out.mono ?_
    rintro e w' ⟨rfl, m, rfl⟩
    go_wp2_with fail
    go_ret
    exact ⟨rfl, _, rfl⟩
  · have HC := Lib.hid (impl_class a rows c w hr hn hm true (Lib.hid hk))
    obtain ⟨b0, off0, p0, q0, rfl, hc0, hlen, h8⟩ := row0 hr hk
    have HR := Lib.hid (fun (m : Nat) => impl_places a' zs c' ((rows.getD 0 []).length : Int) (w.drewN m) hq hz ok (Lib.hid (by rw [← h.out]; unfold setB; rw [hk, Bool.true_and])))
    have i3 : (0 : Int) < (rows.length : Int) := by omega
    clear hr hq hm h hk
    generalize rows.getD 0 [] = r0 at *
    go_enter Try.func61, Try.ntmps61
    go_wp2_with fail
    refine HC.out.mono ?_
    rintro e w' ⟨rfl, m, rfl⟩
    have hc1 : (w.drewN m).cell? ⟨b0, off0, none⟩ = some (.slice p0 r0.length q0) := hc0
    go_wp2_with fail
    refine (HR.out m).mono ?_
    rintro e w' ⟨rfl, rfl⟩
    go_wp2_with fail
    go_ret
    exact ⟨rfl, _, rfl⟩
/-- A class and the place of one of its hypotheses. -/
def hypoB (rows : List (List Int)) (i : Int) : Bool := classB rows && (decide (0 ≤ i) && decide (i ≤ (rows.length : Int) - 1))
theorem hypo_iff (rows : List (List Int)) (i : Int) : hypoB rows i = true ↔ classB rows = true ∧ 0 ≤ i ∧ i ≤ (rows.length : Int) - 1 := by simp [hypoB]
set_option maxRecDepth 100000 in
set_option maxHeartbeats 2000000 in
theorem impl_hypo (a : Option Addr) (rows : List (List Int)) (c : Nat) (i : Int) (w : World) (hr : grid.Reads w a rows) (hn : rows.length ≤ 1048576) (hm : ∀ r ∈ rows, r.length ≤ 1048576) (ok : Bool) (h : Hid (hypoB rows i = ok)) :
    Calls Try.prog 71 #[.slice a rows.length c, .int .i64 i] w (fun e w' => e = .returned (.bool ok) ∧ ∃ m, w' = w.drewN m) := by
  have HC := Lib.hid (impl_class a rows c w hr hn hm (classB rows) (Lib.hid rfl))
  cases hk : classB rows
  · rw [hk] at HC
    obtain rfl : ok = false := by rw [← h.out]; unfold hypoB; rw [hk]; rfl
    clear hr hm h hk
    go_enter Try.func71, Try.ntmps71
    go_wp2_with fail
    refine HC.out.mono ?_
    rintro e w' ⟨rfl, m, rfl⟩
    go_wp2_with fail
    go_ret
    exact ⟨rfl, _, rfl⟩
  · rw [hk] at HC
    by_cases h0 : 0 ≤ i
    · have g0 : decide (0 ≤ i) = true := decide_eq_true h0
      obtain rfl : ok = decide (i < (rows.length : Int)) := by
        rw [← h.out]; unfold hypoB; rw [hk, g0, Bool.true_and, Bool.true_and, decide_eq_decide]; omega
      clear hr hm h hk
      go_enter Try.func71, Try.ntmps71
      go_wp2_with fail
      refine HC.out.mono ?_
      rintro e w' ⟨rfl, m, rfl⟩
      go_wp2_with fail
      go_ret
      exact ⟨rfl, _, rfl⟩
    · have g0 : decide (0 ≤ i) = false := decide_eq_false h0
      obtain rfl : ok = false := by rw [← h.out]; unfold hypoB; rw [hk, g0]; rfl
      clear hr hm h hk
      go_enter Try.func71, Try.ntmps71
      go_wp2_with fail
      refine HC.out.mono ?_
      rintro e w' ⟨rfl, m, rfl⟩
      go_wp2_with fail
      go_ret
      exact ⟨rfl, _, rfl⟩
end Go.Proofs.Ytncidajjeccbkaa.classt
