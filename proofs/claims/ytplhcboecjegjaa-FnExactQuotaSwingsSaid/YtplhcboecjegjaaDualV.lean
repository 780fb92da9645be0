/- The walks of DualVote: the model's and the program's. -/
import Derived.Test.YtplhcboecjegjaaVote
import Derived.Test.YtplhcboecjegjaaOwn1
import Derived.Test.YtplhcboecjegjaaVoteFns
import Derived.Test.YtplhcboecjegjaaShelf
import Derived.Deep.RegionHeld3
import Derived.Deep.DrawnRows
import Derived.Test.YtplhcboecjegjaaSetCell
namespace Go.Proofs.Ytplhcboecjegjaa.dualv
open Go.RowKit own pp nums pv
set_option linter.unusedVariables false
attribute [local go_sem ↓] Go.wp_at_zero Go.wp_at_succ
set_option linter.unusedSimpArgs false

theorem clone_own (a : Option Addr) (zs : List Int) (c : Nat) (w : World) (hr : ints.Reads .i64 w a zs) (hn : zs.length ≤ 1048576) (h0 : 0 < zs.length) :
    Calls Try.prog 106 #[.slice a zs.length c] w (intfns.Made zs w) := by
  obtain ⟨b, off, rfl, hb, hc⟩ := own1.reads_pos hr h0
  refine (Try.slices_Clone_int b off zs.length c zs w (Nat.le_refl _) (by omega) hc).mono ?_
  rintro e w' ⟨v, rfl, ho, _, hb⟩
  rw [List.take_length] at ho
  exact ⟨v, rfl, OwnI.of ho, hb⟩
set_option maxRecDepth 100000 in
set_option maxHeartbeats 1000000 in
theorem spec_sum (a : Option Addr) (ws : List Int) (c : Nat) (q : Int) (w : World) (hr : ints.Reads .i64 w a ws) (hn : ws.length ≤ 1048576) (h8 : ws.length ≤ 8) (hz : ∀ j, j < ws.length → 0 ≤ ws.getD j 0 ∧ ws.getD j 0 ≤ (20 : Nat)) :
    Calls Try.prog 71 #[.agg #[.slice a ws.length c, .int .i64 q]] w (fun e w' => e = .returned (.int .i64 (sumZ ws)) ∧ Below w.heap.size w w') := by
  have HZ := Lib.hid hz
  have HR := Lib.hid hr
  clear hz hr
  go_enter Try.func71, Try.ntmps71
  obtain ⟨w0, hw0⟩ : ∃ w0 : World, w0 = w.alloc (.cells #[.slice a ws.length c, .int .i64 q] 29) := ⟨_, rfl⟩
  have x0 : w0.cell? ⟨w.heap.size, 0, none⟩ = some (.slice a ws.length c) := by rw [hw0]; exact cell_new _ _ _ rfl rfl
  have x1 : w0.cell? ⟨w.heap.size, 1, none⟩ = some (.int .i64 q) := by rw [hw0]; exact cell_new _ _ _ rfl rfl
  have HB0 := Lib.hid (show Below w.heap.size w w0 by rw [hw0]; exact below_alloc w (.cells #[.slice a ws.length c, .int .i64 q] 29))
  have s0 : w.heap.size + 1 ≤ w0.heap.size := by rw [hw0]; simp
  go_wp2_with fail
  rw [← hw0]
  clear hw0
  go_loop [3, 4] (fun s i => ∃ k : Nat, k ≤ ws.length ∧ i = .int .i64 k ∧ s = .int .i64 (sumTo ws k)) (fun _ i => ws.length - (intOf i).toNat)
  case atStart => exact ⟨0, Nat.zero_le _, rfl, rfl⟩
  case round =>
    obtain ⟨k, hk, rfl, rfl⟩ := hrel
    have hbd := sumTo_bd (zs := ws) k (fun j hjk => HZ.out j (by omega))
    by_cases hlt : k < ws.length
    · obtain ⟨b, off, rfl, hb, hc⟩ := (HR.out.below HB0.out).at hlt
      have HSU := Lib.hid (sumTo_succ ws k)
      have hz := HZ.out k hlt
      generalize ws.getD k 0 = s at *
      generalize sumTo ws k = S at *
      go_wp2_with fail
      go_round
      case rel => exact ⟨k + 1, by omega, by go_num, by rw [HSU.out]⟩
      case measure => simp [intOf]; omega
    · obtain rfl : k = ws.length := by omega
      have HS := Lib.hid (show sumTo ws ws.length = sumZ ws from rfl)
      generalize sumTo ws ws.length = S at *
      go_wp2_with fail
      go_ret
      exact ⟨by rw [← HS.out]; rfl, HB0.out⟩
end Go.Proofs.Ytplhcboecjegjaa.dualv
