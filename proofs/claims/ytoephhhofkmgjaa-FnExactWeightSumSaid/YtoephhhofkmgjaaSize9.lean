/- The walk of the model's size of weights, for planes. -/
import Derived.Test.YtoephhhofkmgjaaDots
import Derived.Test.YtoephhhofkmgjaaSizeB
import Derived.Test.YtoephhhofkmgjaaMost
import Derived.BigQuiet
import Derived.Deep.QuietTactic
namespace Go.Proofs.Ytoephhhofkmgjaa.size9
open Go.RowKit own pp nums dots sizeb most
set_option linter.unusedVariables false
set_option linter.unusedSimpArgs false

set_option maxRecDepth 100000 in
set_option maxHeartbeats 4000000 in
theorem spec_size (a : Option Addr) (ws : List Int) (c : Nat) (w : World) (hr : ints.Reads .i64 w a ws) (h4 : ws.length ≤ 4) (hW : W99 ws) :
    Calls Try.prog 75 #[.slice a ws.length c] w (fun e w' => e = .returned (.int .i64 (size ws)) ∧ ∃ m, w' = w.drewN m) := by
  have HW := Lib.hid hW
  clear hW
  go_enter Try.func75, Try.ntmps75
  go_wp2_with fail
  go_loopw [3, 4] (fun s i wr => ∃ k : Nat, k ≤ ws.length ∧ i = .int .i64 k ∧ s = .int .i64 (szTo ws k) ∧ ∃ m, wr = w.drewN m) (fun _ i _ => ws.length - (intOf i).toNat)
  case atStart => exact ⟨0, Nat.zero_le _, rfl, rfl, 0, rfl⟩
  case round =>
    obtain ⟨k, hk, rfl, rfl, m, rfl⟩ := hrel
    by_cases hlt : k < ws.length
    · obtain ⟨b, off, rfl, hb, hc⟩ := hr.at hlt
      replace hc : (w.drewN m).cell? ⟨b, off + k, none⟩ = some (.int .i64 (ws.getD k 0)) := hc
      have hz := HW.out k hlt
      have hs := sz_bd HW.out k hk
      have HS := Lib.hid (show szTo ws (k + 1) = szTo ws k + max (ws.getD k 0) (-(ws.getD k 0)) from rfl)
      have i1 : (0 : Int) ≤ (k : Int) := by omega
      have i2 : (k : Int) < (ws.length : Int) := by omega
      have HM := Lib.hid (show ∀ n, ∃ q, (w.drewN m).drewN n = w.drewN q from fun n => ⟨_, World.drewN_drewN _ _ _⟩)
      generalize ws.getD k 0 = z at *
      generalize szTo ws k = s at *
      generalize w.drewN m = wm at *
      have HC := Lib.hid (fun (q : Nat) => (most_any z (-z) (wm.drewN q)).mono (R' := fun e w' => e = .returned (.int .i64 (max z (-z))) ∧ ∃ m, w' = wm.drewN m) (fun _ _ h => ⟨h.1, q, h.2⟩))
      have hmx : 0 ≤ max z (-z) ∧ max z (-z) ≤ 99 := by omega
      generalize max z (-z) = y at *
      go_wp2_with fail
      go_quiet ((go_at_call 114; exact HC.out _))
      go_wp2_with fail
      go_roundw
      case rel => exact ⟨k + 1, by omega, by go_num, by rw [HS.out], HM.out _⟩
      case measure => simp [intOf]; omega
    · obtain rfl : k = ws.length := by omega
      go_wp2_with fail
      go_ret
      exact ⟨rfl, m, rfl⟩
end Go.Proofs.Ytoephhhofkmgjaa.size9
