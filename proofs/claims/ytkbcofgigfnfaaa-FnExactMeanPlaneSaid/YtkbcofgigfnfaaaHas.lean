/- The walk of the model's test whether a list has a number. -/
import Derived.Test.YtkbcofgigfnfaaaPlanes
import Derived.Test.YtkbcofgigfnfaaaGrid
namespace Go.Proofs.Ytkbcofgigfnfaaa.has
open Go.RowKit own pp nums
set_option linter.unusedVariables false

/-- Whether a list has a number. -/
def hasB (zs : List Int) (n : Int) : Bool := zs.contains n
theorem hasB_at {zs : List Int} {n : Int} {k : Nat} (hk : k < zs.length) (h : zs.getD k 0 = n) : hasB zs n = true := by
  unfold hasB
  rw [List.contains_iff_mem, ← h, List.getD_eq_getElem?_getD, List.getElem?_eq_getElem hk]
  exact List.getElem_mem hk
theorem hasB_none {zs : List Int} {n : Int} (h : ∀ k, k < zs.length → zs.getD k 0 ≠ n) : hasB zs n = false := by
  cases hb : hasB zs n
  · rfl
  · exfalso
    unfold hasB at hb
    rw [List.contains_iff_mem] at hb
    obtain ⟨i, hi, e⟩ := List.getElem_of_mem hb
    exact h i hi (by rw [List.getD_eq_getElem?_getD, List.getElem?_eq_getElem hi]; exact e)
theorem hasB_ex {zs : List Int} {n : Int} (h : hasB zs n = true) : ∃ k, k < zs.length ∧ zs.getD k 0 = n := by
  unfold hasB at h
  rw [List.contains_iff_mem] at h
  obtain ⟨i, hi, e⟩ := List.getElem_of_mem h
  exact ⟨i, hi, by rw [List.getD_eq_getElem?_getD, List.getElem?_eq_getElem hi]; exact e⟩

set_option maxHeartbeats 400000 in
theorem spec_has (a : Option Addr) (zs : List Int) (c : Nat) (n : Int) (w : World) (hr : ints.Reads .i64 w a zs) (hn : zs.length ≤ 1048576) (ok : Bool) (h : Hid (hasB zs n = ok)) :
    Calls Try.prog 121 #[.slice a zs.length c, .int .i64 n] w (Says ok w) := by
  go_enter Try.func121, Try.ntmps121
  go_wp2_with fail
  go_loop [5] (fun i => ∃ k : Nat, k ≤ zs.length ∧ i = .int .i64 k ∧ Hid (∀ j, j < k → zs.getD j 0 ≠ n)) (fun i => zs.length - (intOf i).toNat)
  case atStart => exact ⟨0, Nat.zero_le _, rfl, fun j hj => by omega⟩
  case round =>
    obtain ⟨k, hk, rfl, hj⟩ := hrel
    by_cases hlt : k < zs.length
    · obtain ⟨b, off, rfl, hb, hc⟩ := hr.at hlt
      by_cases hx : zs.getD k 0 = n
      · have e : ok = true := by rw [← h.out]; exact hasB_at hlt hx
        clear h hj
        subst e
        rw [hx] at hc
        clear hx
        go_wp2_with fail
        go_ret
        exact ⟨rfl, rfl⟩
      · have HJ : Hid (∀ j, j < k + 1 → zs.getD j 0 ≠ n) := fun j h => by
          by_cases e : j = k
          · rw [e]; exact hx
          · exact hj.out j (by omega)
        have f1 : (zs.getD k 0 == n) = false := by simpa using hx
        clear hx hj
        generalize hs : zs.getD k 0 = s at *
        clear hs
        go_wp2_with fail
        go_round
        case rel => exact ⟨k + 1, by omega, by go_num, HJ⟩
        case measure => simp [intOf]; omega
    · have : k = zs.length := by omega
      have e : ok = false := by rw [← h.out]; exact hasB_none (fun j hj' => hj.out j (by omega))
      clear h hj
      subst this
      subst e
      go_wp2_with fail
      go_ret
      exact ⟨rfl, rfl⟩
end Go.Proofs.Ytkbcofgigfnfaaa.has
