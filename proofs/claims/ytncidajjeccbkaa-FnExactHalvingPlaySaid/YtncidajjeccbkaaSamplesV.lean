/- The walks of the model's and the program's test of a sample. -/
import Derived.Test.YtncidajjeccbkaaPlanes
import Derived.Test.YtncidajjeccbkaaGrid
namespace Go.Proofs.Ytncidajjeccbkaa.samplesv
open Go.RowKit own pp nums
set_option linter.unusedVariables false

theorem says_quiet {P : Program} {f : FuncId} {args : Array Value} {w : World} {n : Nat} {ok : Bool} (h : Calls P f args (w.drewN n) (Says ok (w.drewN n))) :
    Calls P f args (w.drewN n) fun e w'' => e = .returned (.bool ok) ∧ ∃ m, w'' = w.drewN m :=
  h.mono fun _ _ ⟨he, hw⟩ => ⟨he, n, hw.symm⟩

set_option maxHeartbeats 400000 in
theorem spec_labels (a : Option Addr) (zs : List Int) (c : Nat) (w : World) (hr : ints.Reads .i64 w a zs) (hn : zs.length ≤ 1048576) (ok : Bool) (h : Hid (labelsB zs = ok)) :
    Calls Try.prog 74 #[.slice a zs.length c] w (Says ok w) := by
  go_enter Try.func74, Try.ntmps74
  go_wp2_with fail
  go_loop [3] (fun i => ∃ k : Nat, k ≤ zs.length ∧ i = .int .i64 k ∧ Hid (∀ j, j < k → labelB (zs.getD j 0) = true)) (fun i => zs.length - (intOf i).toNat)
  case atStart => exact ⟨0, Nat.zero_le _, rfl, fun j hj => by omega⟩
  case round =>
    obtain ⟨k, hk, rfl, hj⟩ := hrel
    by_cases hlt : k < zs.length
    · obtain ⟨b, off, rfl, hb, hc⟩ := hr.at hlt
      cases hx : labelB (zs.getD k 0)
      · have e : ok = false := by rw [← h.out]; exact all_false _ 0 zs k hlt hx
        have hne : ¬ (zs.getD k 0 = 1 ∨ zs.getD k 0 = -1) := fun e => by rw [(labelB_iff _).2 e] at hx; cases hx
        clear h hx
        subst e
        generalize hs : zs.getD k 0 = s at *
        clear hs
        have f1 : (s != 1) = true := by simp; omega
        have f2 : (s != -1) = true := by simp; omega
        clear hne
        go_wp2_with fail
        go_ret
        exact ⟨rfl, rfl⟩
      · have HJ : Hid (∀ j, j < k + 1 → labelB (zs.getD j 0) = true) := fun j h => by
          by_cases e : j = k
          · rw [e]; exact hx
          · exact hj.out j (by omega)
        have hx' := (labelB_iff _).1 hx
        clear hx hj
        generalize hs : zs.getD k 0 = s at *
        clear hs
        rcases hx' with rfl | rfl
        all_goals
          go_wp2_with fail
          go_round
          case rel => exact ⟨k + 1, by omega, by go_num, HJ⟩
          case measure => simp [intOf]; omega
    · have : k = zs.length := by omega
      have e : ok = true := by rw [← h.out]; exact all_true _ 0 zs (fun j hj' => hj.out j (by omega))
      clear h hj
      subst this
      subst e
      go_wp2_with fail
      go_ret
      exact ⟨rfl, rfl⟩
theorem impl_label (x : Int) (w : World) (ok : Bool) (h : Hid (labelB x = ok)) :
    Calls Try.prog 87 #[.int .i64 x] w (Says ok w) := by
  by_cases h1 : x = 1
  · have e : ok = true := by rw [← h.out]; simp [labelB, h1]
    clear h
    subst h1 e
    go_enter Try.func87, Try.ntmps87
    go_wp2_with fail
    go_ret
    exact ⟨rfl, rfl⟩
  · by_cases h2 : x = -1
    · have e : ok = true := by rw [← h.out]; simp [labelB, h2]
      clear h h1
      subst h2 e
      go_enter Try.func87, Try.ntmps87
      go_wp2_with fail
      go_ret
      exact ⟨rfl, rfl⟩
    · have e : ok = false := by rw [← h.out]; simp [labelB, h1, h2]
      have f1 : (x == 1) = false := by simp; omega
      have f2 : (x == -1) = false := by simp; omega
      clear h h1 h2
      subst e
      go_enter Try.func87, Try.ntmps87
      go_wp2_with fail
      go_ret
      exact ⟨rfl, rfl⟩

/-- A row is a point as long as the first one. -/
def rowB (rows : List (List Int)) (r : List Int) : Bool := pointB r && decide (r.length = (rows.getD 0 []).length)
theorem rowsB_eq (rows : List (List Int)) : rowsB rows = rows.all (rowB rows) := rfl

end Go.Proofs.Ytncidajjeccbkaa.samplesv
