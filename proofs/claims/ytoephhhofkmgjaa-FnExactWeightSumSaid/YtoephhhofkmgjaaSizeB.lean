/- The walks of the program's weights without signs and of their sum, for planes. -/
import Derived.Test.YtoephhhofkmgjaaMk
import Derived.Test.YtoephhhofkmgjaaOwnG
namespace Go.Proofs.Ytoephhhofkmgjaa.sizeb
open Go.RowKit own pp nums
set_option linter.unusedVariables false
set_option linter.unusedSimpArgs false

open mk (mk_length mk_succ mk_getD mk_congr fil fil_zero fil_all fil_succ fil_at)
def W99 (ws : List Int) : Prop := ∀ i, i < ws.length → -99 ≤ ws.getD i 0 ∧ ws.getD i 0 ≤ 99
def szTo (ws : List Int) : Nat → Int
  | 0 => 0
  | k + 1 => szTo ws k + max (ws.getD k 0) (-(ws.getD k 0))
def size (ws : List Int) : Int := szTo ws ws.length
theorem sz_bd {ws : List Int} (h : W99 ws) (k : Nat) (hk : k ≤ ws.length) : 0 ≤ szTo ws k ∧ szTo ws k ≤ 99 * k := by
  induction k with
  | zero => simp [szTo]
  | succ k ih =>
    have h1 := ih (by omega)
    have h2 := h k (by omega)
    unfold szTo
    omega
def ab (ws : List Int) (k : Nat) : Int := max (ws.getD k 0) (-(ws.getD k 0))
set_option maxRecDepth 100000 in
set_option maxHeartbeats 4000000 in
theorem impl_signs (a : Option Addr) (ws : List Int) (c : Nat) (w : World) (hr : ints.Reads .i64 w a ws) (h4 : ws.length ≤ 4) (hW : W99 ws) :
    Calls Try.prog 115 #[.slice a ws.length c] w ((fun e w' => ∃ v, e = .returned v ∧ OwnI w.heap.size w'.heap.size w' v (mk.mk (ab ws) ws.length) ∧ Below w.heap.size w w')) := by
  obtain ⟨i0, hi, hz0, hz1, hz2⟩ := info_parts mk.infoInt
  have HR := Lib.hid hr
  have HW := Lib.hid hW
  clear hr hW
  go_enter Try.func115, Try.ntmps115
  have j0 : (0 : Int) ≤ (ws.length : Int) := by omega
  have j1 : (ws.length : Int) ≤ 4 := by omega
  go_wp2_with (refine wpList_make_full _ rfl _ _ 33 rfl w.heap.size 3 i0 (.int .i64 0) 1 Try.underlying33 hi hz0 hz1 .i64 .i64 _ _ ws.length rfl rfl rfl rfl (by rw [hz2]; omega) (by unfold maxLen; omega) (Nat.le_refl _) ?_; intro w1 hown1 hgrow1; refine Hid.out ?_)
  refine Lib.hid ?_
  have HB1 := Lib.hid (show Below w.heap.size w w1 from (Below.refl _ _).grown hgrow1 (Nat.le_refl _) (by simp))
  rw [show (Value.int .i64 0).cells = #[Value.int .i64 0] from rfl, Nat.mul_one, toList_madeCells_one, ← fil_zero (ab ws)] at hown1
  have HO1 := Lib.hid hown1
  clear hgrow1 hown1
  go_wp2_with fail
  go_loopw [11] (fun i wr => ∃ k : Nat, k ≤ ws.length ∧ i = .int .i64 k ∧ wr.ownsRow w.heap.size 3 1 (.slice (some ⟨w.heap.size, 0, none⟩) ws.length ws.length) ws.length (fil (ab ws) ws.length k) ∧ Below w.heap.size w wr) (fun i _ => ws.length - (intOf i).toNat)
  case atStart => exact ⟨0, Nat.zero_le _, rfl, HO1.out, HB1.out⟩
  case round =>
    obtain ⟨k, hk, rfl, hown, hbel⟩ := hrel
    clear HO1 HB1
    have HB := Lib.hid hbel
    clear hbel
    by_cases hlt : k < ws.length
    · obtain ⟨b, off, hab, hb, hc⟩ := (HR.out.below HB.out).at hlt
      subst hab
      have hz := HW.out k hlt
      have hcell : wr.cell? ⟨w.heap.size, k, none⟩ = some (.int .i64 0) := by rw [hown.cellAt k (by omega), fil_at _ _ k hlt]
      have hfro := hown.frozenAt k
      have hst := hown.stored k (.int .i64 (ab ws k))
      rw [fil_succ (ab ws) _ k hlt] at hst
      have HS := Lib.hid (show (wr.setCell ⟨w.heap.size, k, none⟩ (.int .i64 (if ws.getD k 0 < -(ws.getD k 0) then -(ws.getD k 0) else ws.getD k 0))).ownsRow w.heap.size 3 1 (.slice (some ⟨w.heap.size, 0, none⟩) ws.length ws.length) ws.length (fil (ab ws) ws.length (k + 1)) from by rw [show (if ws.getD k 0 < -(ws.getD k 0) then -(ws.getD k 0) else ws.getD k 0) = ab ws k from by unfold ab; split <;> omega]; exact hst.1)
      have i1 : (0 : Int) ≤ (k : Int) := by omega
      have i2 : (k : Int) < (ws.length : Int) := by omega
      clear hst hown
      generalize ws.getD k 0 = z at *
      go_wp2_with fail
      go_roundw
      case rel => exact ⟨k + 1, by omega, by go_num, HS.out, HB.out.setCell (Nat.le_refl _) _⟩
      case measure => simp [intOf]; omega
    · obtain rfl : k = ws.length := by omega
      rw [fil_all] at hown
      have HO := Lib.hid hown
      clear hown
      go_wp2_with fail
      go_ret
      exact ⟨_, rfl, OwnI.of (by rw [mk_length]; exact HO.out), HB.out⟩
set_option maxRecDepth 100000 in
set_option maxHeartbeats 4000000 in
theorem impl_size (a : Option Addr) (ws : List Int) (c : Nat) (w : World) (hr : ints.Reads .i64 w a ws) (h4 : ws.length ≤ 4) (hW : W99 ws) :
    Calls Try.prog 76 #[.slice a ws.length c] w ((fun e w' => e = .returned (.int .i64 (size ws)) ∧ Below w.heap.size w w')) := by
  have HW := Lib.hid hW
  have HC := Lib.hid (impl_signs a ws c w hr h4 hW)
  clear hr hW
  go_enter Try.func76, Try.ntmps76
  go_wp2_with fail
  refine HC.out.mono ?_
  rintro e w1 ⟨v, rfl, ho, hb⟩
  obtain ⟨p, q, rfl, hrd, _, _⟩ := ho.slice
  rw [mk_length]
  have HR := Lib.hid hrd
  have HB := Lib.hid hb
  have HG := Lib.hid (fun k (h : k < ws.length) => mk_getD (ab ws) ws.length k h)
  have HL := Lib.hid (mk_length (ab ws) ws.length)
  clear HC ho hrd hb
  generalize mk.mk (ab ws) ws.length = xs at *
  go_wp2_with fail
  go_loopw [3, 9] (fun s i wr => ∃ k : Nat, k ≤ ws.length ∧ i = .int .i64 k ∧ s = .int .i64 (szTo ws k) ∧ wr = w1) (fun _ i _ => ws.length - (intOf i).toNat)
  case atStart => exact ⟨0, Nat.zero_le _, rfl, rfl, rfl⟩
  case round =>
    obtain ⟨k, hk, rfl, rfl, rfl⟩ := hrel
    by_cases hlt : k < ws.length
    · obtain ⟨b, off, rfl, hb, hc⟩ := HR.out.at (k := k) (by rw [HL.out]; exact hlt)
      rw [HG.out k hlt] at hc
      have hz := HW.out k hlt
      have hs := sz_bd HW.out k hk
      have HS := Lib.hid (show szTo ws (k + 1) = szTo ws k + ab ws k from rfl)
      have hmx : 0 ≤ ab ws k ∧ ab ws k ≤ 99 := by unfold ab; omega
      have i1 : (0 : Int) ≤ (k : Int) := by omega
      have i2 : (k : Int) < (ws.length : Int) := by omega
      generalize szTo ws k = s at *
      generalize ab ws k = y at *
      go_wp2_with fail
      go_roundw
      case rel => exact ⟨k + 1, by omega, by go_num, by rw [HS.out], trivial⟩
      case measure => simp [intOf]; omega
    · obtain rfl : k = ws.length := by omega
      go_wp2_with fail
      go_ret
      exact ⟨rfl, HB.out⟩
end Go.Proofs.Ytoephhhofkmgjaa.sizeb
