/- The walk of the test whether the numbers of a list are different ones below n. -/
import Derived.Test.YtncidajjeccbkaaPermP
import Derived.Test.YtncidajjeccbkaaNums
import Derived.Test.YtncidajjeccbkaaOwnG
namespace Go.Proofs.Ytncidajjeccbkaa.diffw
open Go.RowKit own pp nums has permp
set_option linter.unusedVariables false
set_option linter.unusedSimpArgs false

def diffB (n : Nat) (to : List Int) : Bool := (List.range to.length).all (okAt n to)
theorem order_diff (n : Nat) (to : List Int) : orderB n to = (decide (to.length = n) && diffB n to) := rfl
theorem diff_no {n : Nat} {to : List Int} (j : Nat) (hj : j < to.length) (h : okAt n to j = false) : diffB n to = false := by
  cases hx : diffB n to
  · rfl
  · unfold diffB at hx
    rw [List.all_eq_true] at hx
    rw [hx j (List.mem_range.2 hj)] at h; cases h
theorem diff_ok {n : Nat} {to : List Int} (h : ∀ i, i < to.length → okAt n to i = true) : diffB n to = true := by
  unfold diffB
  rw [List.all_eq_true]
  intro k hk
  exact h k (List.mem_range.1 hk)
theorem diff_at {n : Nat} {to : List Int} (h : diffB n to = true) (j : Nat) (hj : j < to.length) : okAt n to j = true := by
  unfold diffB at h
  rw [List.all_eq_true] at h
  exact h j (List.mem_range.2 hj)
theorem infoBool : (Try.prog.info? 4).map (fun i => (i.zero, i.size, i.bytes)) = some (some (.bool false), 1, 1) := by kernel_rfl
set_option maxRecDepth 100000 in
set_option maxHeartbeats 4000000 in
theorem diff_any (n : Nat) (a' : Option Addr) (to : List Int) (c' : Nat) (w : World) (hq : ints.Reads .i64 w a' to) (h4 : n ≤ 8) (ok : Bool) (hm : to.length ≤ 1048576) (h : Hid (diffB n to = ok)) :
    Calls Try.prog 81 #[.slice a' to.length c', .int .i64 n] w (RetB ok w) := by
  obtain ⟨i0, hi, hz0, hz1, hz2⟩ := info_parts infoBool
  have HQ := Lib.hid hq
  clear hq
  go_enter Try.func81, Try.ntmps81
  go_wp2_with (refine wpList_make_full _ rfl _ _ 56 rfl w.heap.size 4 i0 (.bool false) 1 Try.underlying56 hi hz0 hz1 .i64 .i64 _ _ n rfl rfl rfl rfl (by rw [hz2]; omega) (by unfold maxLen; omega) (Nat.le_refl _) ?_; intro w1 hown1 hgrow1; refine Hid.out ?_)
  refine Lib.hid ?_
  have hb1 : Below w.heap.size w w1 := (Below.refl _ _).grown hgrow1 (Nat.le_refl _) (by simp)
  rw [show (Value.bool false).cells = #[Value.bool false] from rfl, Nat.mul_one, toList_madeCells_one, ← seen_zero n to] at hown1
  go_wp2_with fail
  go_loopw [12] (fun i wr => ∃ j : Nat, j ≤ to.length ∧ i = .int .i64 j ∧ (∀ i, i < j → okAt n to i = true) ∧ wr.ownsRow w.heap.size 4 1 (.slice (some ⟨w.heap.size, 0, none⟩) n n) n (seenTo n to j) ∧ Below w.heap.size w wr) (fun i _ => to.length - (intOf i).toNat)
  case atStart => exact ⟨0, Nat.zero_le _, rfl, fun i hi => by omega, hown1, hb1⟩
  case round =>
    obtain ⟨j, hj, rfl, hall, hown, hbel⟩ := hrel
    clear hown1 hgrow1 hb1
    by_cases hlt : j < to.length
    · obtain ⟨b, off, rfl, hb, hc⟩ := (HQ.out.below hbel).at hlt
      have i1 : (0 : Int) ≤ (j : Int) := by omega
      have i2 : (j : Int) < (to.length : Int) := by omega
      have HB := Lib.hid hbel
      clear hbel
      by_cases h1 : to.getD j 0 < 0
      · obtain rfl : ok = false := by rw [← h.out]; exact diff_no j hlt (by unfold okAt; rw [decide_eq_false (by omega)]; rfl)
        clear h hown hall
        generalize to.getD j 0 = x at *
        go_wp2_with fail
        go_ret
        exact ⟨rfl, HB.out⟩
      · by_cases h2 : (n : Int) ≤ to.getD j 0
        · obtain rfl : ok = false := by rw [← h.out]; exact diff_no j hlt (by unfold okAt; rw [decide_eq_false (show ¬ to.getD j 0 < (n : Int) by omega), Bool.and_false]; rfl)
          clear h hown hall
          generalize to.getD j 0 = x at *
          go_wp2_with fail
          go_ret
          exact ⟨rfl, HB.out⟩
        · obtain ⟨s, hs⟩ : ∃ s : Nat, to.getD j 0 = (s : Int) := ⟨(to.getD j 0).toNat, by omega⟩
          have hsn : s < n := by omega
          have hcell : wr.cell? ⟨w.heap.size, s, none⟩ = some (.bool (hasB (to.take j) (s : Int))) := by rw [hown.cellAt s (by omega), seen_at hsn]
          rw [hs] at hc
          have i3 : (0 : Int) ≤ (s : Int) := by omega
          have i4 : (s : Int) < (n : Int) := by omega
          clear h1 h2
          cases hx : hasB (to.take j) (s : Int)
          · rw [hx] at hcell
            have hfro := hown.frozenAt s
            have hst := hown.stored s (.bool true)
            rw [seen_succ hlt hs hsn] at hst
            have HS := Lib.hid hst
            have HA := Lib.hid (show ∀ i, i < j + 1 → okAt n to i = true from fun i hi => by
              by_cases e : i = j
              · rw [e]; unfold okAt; rw [hs, hx, decide_eq_true (show (0 : Int) ≤ s by omega), decide_eq_true (show (s : Int) < n by omega)]; rfl
              · exact hall i (by omega))
            clear hst hown hs hx hall
            go_wp2_with fail
            go_roundw
            case rel => exact ⟨j + 1, by omega, by go_num, HA.out, HS.out.1, HB.out.setCell (Nat.le_refl _) _⟩
            case measure => simp [intOf]; omega
          · rw [hx] at hcell
            obtain rfl : ok = false := by rw [← h.out]; exact diff_no j hlt (by unfold okAt; rw [hs, hx]; simp)
            clear h hown hall hs hx
            go_wp2_with fail
            go_ret
            exact ⟨rfl, HB.out⟩
    · obtain rfl : j = to.length := by omega
      obtain rfl : ok = true := by rw [← h.out]; exact diff_ok hall
      have HB := Lib.hid hbel
      clear h hown hall hbel
      go_wp2_with fail
      go_ret
      exact ⟨rfl, HB.out⟩
end Go.Proofs.Ytncidajjeccbkaa.diffw
