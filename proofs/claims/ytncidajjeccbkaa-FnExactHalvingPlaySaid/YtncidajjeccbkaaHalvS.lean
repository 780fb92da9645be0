/- The walks of the model's play by halving. -/
import Derived.Test.YtncidajjeccbkaaHalvP
import Derived.Test.YtncidajjeccbkaaClassT
import Derived.Test.YtncidajjeccbkaaHas
import Derived.Test.YtncidajjeccbkaaMk
import Derived.Deep.RegionHeld3
import Derived.Deep.DrawnRows
import Derived.BigQuiet
namespace Go.Proofs.Ytncidajjeccbkaa.halvs
open Go.RowKit own pp nums setcmp setord cls classt atw rising permp diffw halvp
set_option linter.unusedVariables false
set_option linter.unusedSimpArgs false

set_option maxRecDepth 100000 in
set_option maxHeartbeats 4000000 in
theorem spec_order (a : Option Addr) (rows : List (List Int)) (c : Nat) (ao : Option Addr) (order : List Int) (co : Nat) (w : World) (hr : grid.Reads w a rows) (hk : classB rows = true) (hq : ints.Reads .i64 w ao order) (hcp : order.length ≤ co) (hz : order.length ≤ 1048576) (ok : Bool) (h : Hid (diffB (rows.getD 0 []).length order = ok)) :
    Calls Try.prog 79 #[.slice a rows.length c, .slice ao order.length co] w ((fun e w' => e = .returned (.bool ok) ∧ Below w.heap.size w w')) := by
  obtain ⟨b0, off0, p0, q0, rfl, hc0, hlen, h8⟩ := classt.row0 hr hk
  have hbl : b0 < w.heap.size := World.block_lt_of_cell? w _ hc0
  have i3 : (0 : Int) < (rows.length : Int) := by omega
  obtain ⟨m, hm0⟩ : ∃ m, (rows.getD 0 []).length = m := ⟨_, rfl⟩
  rw [hm0] at hc0 h h8
  have HC0 := Lib.hid hc0
  have HQ := Lib.hid hq
  have iwm : IntKind.i64.wrap ((m : Int) - 1) = (m : Int) - 1 := IntWalk.i64_in _ (by omega)
  clear hr hk hc0 hq hm0
  go_enter Try.func79, Try.ntmps79
  go_wp2_with fail
  go_loopw [5] (fun z wr => ∃ k : Nat, k ≤ order.length ∧ z = .int .i64 k ∧ Hid (∀ j, j < k → okAt m order j = true) ∧ Below w.heap.size w wr) (fun z _ => order.length - (intOf z).toNat)
  case atStart => exact ⟨0, Nat.zero_le _, rfl, fun j hj => by omega, Below.refl _ _⟩
  case round =>
    obtain ⟨k, hk, rfl, hj, hbel⟩ := hrel
    by_cases hlt : k < order.length
    · have hqr := HQ.out.below hbel
      obtain ⟨bo, oo, rfl, hbo, hco⟩ := hqr.at hlt
      have hc0r := cell_below hbel HC0.out hbl
      have HBl := Lib.hid hbel
      have HOK := Lib.hid (ok_iff (m := m) (order := order) (i := k))
      have htl : (order.take k).length = k := by rw [List.length_take]; omega
      have HHA := Lib.hid (fun (ok' : Bool) (hx : Hid (has.hasB (order.take k) (order.getD k 0) = ok')) (wa : World) (hb : Below wr.heap.size wr wa) => has.spec_has (some ⟨bo, oo, none⟩) (order.take k) co (order.getD k 0) wa ((reads_take hqr k).below hb) (by omega) ok' hx)
      rw [htl] at HHA
      have i1 : (0 : Int) ≤ (k : Int) := by omega
      have i2 : (k : Int) < (order.length : Int) := by omega
      have i4 : (k : Int) ≤ (co : Int) := by omega
      have i5 : k ≤ co := by omega
      have i6 : (k : Int) ≤ (order.length : Int) := by omega
      clear hbel hqr htl
      cases hin : (decide (0 ≤ order.getD k 0) && decide (order.getD k 0 ≤ (m : Int) - 1))
      · obtain rfl : ok = false := by rw [← h.out]; exact diff_no k hlt (by rw [HOK.out, hin, Bool.false_and])
        have HI := Lib.hid (fun (wa : World) => nums.in_any (order.getD k 0) 0 ((m : Int) - 1) wa false (Lib.hid hin))
        clear h hj hin HOK HHA
        generalize order.getD k 0 = z at *
        go_wp2_with fail
        refine wp_region_noPanic ?_
        refine wp_region_held_drew (S := fun w' => w'.cell? ⟨bo, oo + k, none⟩ = some (.int .i64 z) ∧ w'.cell? ⟨b0, off0, none⟩ = some (.slice p0 m q0)) (by kernel_rfl) ?_ (fun hHeld => ?_)
        · exact ⟨hco, hc0r⟩
        refine wpAnyH_take (i := 0) (v := ?_) rfl (by kernel_rfl) (by kernel_rfl) (by kernel_rfl) (fun _ _ _ h => h) (Or.inl ⟨by rfl, ?_⟩) (by assumption) ?_
        rotate_left
        · intro w9 hSw; (try dsimp only at hSw); go_simp; try with_reducible rfl
        try simp only [List.getElem_toArray, List.getElem_cons_succ, List.getElem_cons_zero, Act.put, List.setIfInBounds_toArray, List.set_cons_zero, List.set_cons_succ]
        refine wpAnyH_take (i := 1) (v := ?_) rfl (by kernel_rfl) (by kernel_rfl) (by kernel_rfl) (fun _ _ _ h => h) (Or.inl ⟨by rfl, ?_⟩) (by assumption) ?_
        rotate_left
        · intro w9 hSw; (try dsimp only at hSw); go_simp; try with_reducible rfl
        try simp only [List.getElem_toArray, List.getElem_cons_succ, List.getElem_cons_zero, Act.put, List.setIfInBounds_toArray, List.set_cons_zero, List.set_cons_succ]
        refine wpAnyH_take (i := 2) (v := ?_) rfl (by kernel_rfl) (by kernel_rfl) (by kernel_rfl) (fun _ _ _ h => h) (Or.inl ⟨by rfl, ?_⟩) (by assumption) ?_
        rotate_left
        · intro w9 hSw; (try dsimp only at hSw); go_simp; try with_reducible rfl
        try simp only [List.getElem_toArray, List.getElem_cons_succ, List.getElem_cons_zero, Act.put, List.setIfInBounds_toArray, List.set_cons_zero, List.set_cons_succ]
        refine wpAnyH_take (i := 3) (v := ?_) rfl (by kernel_rfl) (by kernel_rfl) (by kernel_rfl) (fun _ _ _ h => h) (Or.inl ⟨by rfl, ?_⟩) (by assumption) ?_
        rotate_left
        · intro w9 hSw; (try dsimp only at hSw); go_simp; try with_reducible rfl
        try simp only [List.getElem_toArray, List.getElem_cons_succ, List.getElem_cons_zero, Act.put, List.setIfInBounds_toArray, List.set_cons_zero, List.set_cons_succ]
        refine wpAnyH_take (i := 4) (v := ?_) rfl (by kernel_rfl) (by kernel_rfl) (by kernel_rfl) (fun _ _ _ h => h) (Or.inl ⟨by rfl, ?_⟩) (by assumption) ?_
        rotate_left
        · intro w9 hSw; (try dsimp only at hSw); go_simp; try with_reducible rfl
        try simp only [List.getElem_toArray, List.getElem_cons_succ, List.getElem_cons_zero, Act.put, List.setIfInBounds_toArray, List.set_cons_zero, List.set_cons_succ]
        refine wpAnyH_take (i := 5) (v := ?_) rfl (by kernel_rfl) (by kernel_rfl) (by kernel_rfl) (fun _ _ _ h => h) (Or.inl ⟨by rfl, ?_⟩) (by assumption) ?_
        rotate_left
        · intro w9 hSw; (try dsimp only at hSw); go_simp; try with_reducible rfl
        try simp only [List.getElem_toArray, List.getElem_cons_succ, List.getElem_cons_zero, Act.put, List.setIfInBounds_toArray, List.set_cons_zero, List.set_cons_succ]
        refine wpAnyH_take (i := 6) (v := ?_) rfl (by kernel_rfl) (by kernel_rfl) (by kernel_rfl) (fun _ _ _ h => h) (Or.inl ⟨by rfl, ?_⟩) (by assumption) ?_
        rotate_left
        · intro w9 hSw; (try dsimp only at hSw); go_simp; try with_reducible rfl
        try simp only [List.getElem_toArray, List.getElem_cons_succ, List.getElem_cons_zero, Act.put, List.setIfInBounds_toArray, List.set_cons_zero, List.set_cons_succ]
        refine wpAnyH_take (i := 7) (v := ?_) rfl (by kernel_rfl) (by kernel_rfl) (by kernel_rfl) (fun _ _ _ h => h) (Or.inl ⟨by rfl, ?_⟩) (by assumption) ?_
        rotate_left
        · intro w9 hSw; (try dsimp only at hSw); go_simp; try with_reducible rfl
        try simp only [List.getElem_toArray, List.getElem_cons_succ, List.getElem_cons_zero, Act.put, List.setIfInBounds_toArray, List.set_cons_zero, List.set_cons_succ]
        refine wpAnyH_take (i := 8) (v := ?_) rfl (by kernel_rfl) (by kernel_rfl) (by kernel_rfl) (fun _ _ _ h => h) (Or.inl ⟨by rfl, ?_⟩) (by assumption) ?_
        rotate_left
        · intro w9 hSw; (try dsimp only at hSw); go_simp; try with_reducible rfl
        try simp only [List.getElem_toArray, List.getElem_cons_succ, List.getElem_cons_zero, Act.put, List.setIfInBounds_toArray, List.set_cons_zero, List.set_cons_succ]
        refine wpAnyH_ready (rs := [9]) (by kernel_rfl) (by simp) ?_
        refine AllReadyH.cons rfl (fun K hK => ?_) AllReadyH.nil
        clear hHeld
        go_simp
        refine (HI.out _).mono ?_
        rintro e w' ⟨rfl, rfl⟩
        refine hK.out _ _ ?_ (fun hHeld => ?_)
        · exact ⟨hco, hc0r⟩
        clear hK K
        try simp only [List.getElem_toArray, List.getElem_cons_succ, List.getElem_cons_zero, Act.put, List.setIfInBounds_toArray, List.set_cons_zero, List.set_cons_succ]
        refine wpAnyH_take (i := 10) (v := ?_) rfl (by kernel_rfl) (by kernel_rfl) (by kernel_rfl) (fun _ _ _ h => h) (Or.inl ⟨by rfl, ?_⟩) (by assumption) ?_
        rotate_left
        · intro w9 hSw; (try dsimp only at hSw); go_simp; try with_reducible rfl
        try simp only [List.getElem_toArray, List.getElem_cons_succ, List.getElem_cons_zero, Act.put, List.setIfInBounds_toArray, List.set_cons_zero, List.set_cons_succ]
        refine wpAnyH_take (i := 11) (v := ?_) rfl (by kernel_rfl) (by kernel_rfl) (by kernel_rfl) (fun _ _ _ h => h) (Or.inl ⟨by rfl, ?_⟩) (by assumption) ?_
        rotate_left
        · intro w9 hSw; (try dsimp only at hSw); go_simp; try with_reducible rfl
        try simp only [List.getElem_toArray, List.getElem_cons_succ, List.getElem_cons_zero, Act.put, List.setIfInBounds_toArray, List.set_cons_zero, List.set_cons_succ]
        refine wpAnyH_take (i := 12) (v := undef) rfl (by kernel_rfl) (by kernel_rfl) (by kernel_rfl) (fun _ _ _ h => h) (Or.inr ⟨by rfl, rfl⟩) (by assumption) ?_
        try simp only [List.getElem_toArray, List.getElem_cons_succ, List.getElem_cons_zero, Act.put, List.setIfInBounds_toArray, List.set_cons_zero, List.set_cons_succ]
        refine wpAnyH_take (i := 13) (v := undef) rfl (by kernel_rfl) (by kernel_rfl) (by kernel_rfl) (fun _ _ _ h => h) (Or.inr ⟨by rfl, rfl⟩) (by assumption) ?_
        try simp only [List.getElem_toArray, List.getElem_cons_succ, List.getElem_cons_zero, Act.put, List.setIfInBounds_toArray, List.set_cons_zero, List.set_cons_succ]
        refine wpAnyH_take (i := 14) (v := undef) rfl (by kernel_rfl) (by kernel_rfl) (by kernel_rfl) (fun _ _ _ h => h) (Or.inr ⟨by rfl, rfl⟩) (by assumption) ?_
        try simp only [List.getElem_toArray, List.getElem_cons_succ, List.getElem_cons_zero, Act.put, List.setIfInBounds_toArray, List.set_cons_zero, List.set_cons_succ]
        refine wpAnyH_take (i := 15) (v := undef) rfl (by kernel_rfl) (by kernel_rfl) (by kernel_rfl) (fun _ _ _ h => h) (Or.inr ⟨by rfl, rfl⟩) (by assumption) ?_
        try simp only [List.getElem_toArray, List.getElem_cons_succ, List.getElem_cons_zero, Act.put, List.setIfInBounds_toArray, List.set_cons_zero, List.set_cons_succ]
        refine wpAnyH_take (i := 16) (v := undef) rfl (by kernel_rfl) (by kernel_rfl) (by kernel_rfl) (fun _ _ _ h => h) (Or.inr ⟨by rfl, rfl⟩) (by assumption) ?_
        try simp only [List.getElem_toArray, List.getElem_cons_succ, List.getElem_cons_zero, Act.put, List.setIfInBounds_toArray, List.set_cons_zero, List.set_cons_succ]
        refine wpAnyH_take (i := 17) (v := undef) rfl (by kernel_rfl) (by kernel_rfl) (by kernel_rfl) (fun _ _ _ h => h) (Or.inr ⟨by rfl, rfl⟩) (by assumption) ?_
        try simp only [List.getElem_toArray, List.getElem_cons_succ, List.getElem_cons_zero, Act.put, List.setIfInBounds_toArray, List.set_cons_zero, List.set_cons_succ]
        refine wpAnyH_take (i := 18) (v := undef) rfl (by kernel_rfl) (by kernel_rfl) (by kernel_rfl) (fun _ _ _ h => h) (Or.inr ⟨by rfl, rfl⟩) (by assumption) ?_
        try simp only [List.getElem_toArray, List.getElem_cons_succ, List.getElem_cons_zero, Act.put, List.setIfInBounds_toArray, List.set_cons_zero, List.set_cons_succ]
        refine wpAnyH_take (i := 19) (v := undef) rfl (by kernel_rfl) (by kernel_rfl) (by kernel_rfl) (fun _ _ _ h => h) (Or.inr ⟨by rfl, rfl⟩) (by assumption) ?_
        try simp only [List.getElem_toArray, List.getElem_cons_succ, List.getElem_cons_zero, Act.put, List.setIfInBounds_toArray, List.set_cons_zero, List.set_cons_succ]
        refine wpAnyH_take (i := 20) (v := ?_) rfl (by kernel_rfl) (by kernel_rfl) (by kernel_rfl) (fun _ _ _ h => h) (Or.inl ⟨by rfl, ?_⟩) (by assumption) ?_
        rotate_left
        · intro w9 hSw; (try dsimp only at hSw); go_simp; try with_reducible rfl
        try simp only [List.getElem_toArray, List.getElem_cons_succ, List.getElem_cons_zero, Act.put, List.setIfInBounds_toArray, List.set_cons_zero, List.set_cons_succ]
        refine wpAnyH_done (by kernel_rfl) ?_ _
        refine NoPanic.normal ?_
        clear hHeld
        go_wp2_with fail
        go_ret
        exact ⟨rfl, HBl.out.trans ((Below.refl wr.heap.size wr).drew.mono HBl.out.size)⟩
      · have HI := Lib.hid (fun (wa : World) => nums.in_any (order.getD k 0) 0 ((m : Int) - 1) wa true (Lib.hid hin))
        cases hhs : has.hasB (order.take k) (order.getD k 0)
        · have HHS := Lib.hid (HHA.out false (Lib.hid hhs))
          have HJ := Lib.hid (show ∀ j, j < k + 1 → okAt m order j = true from fun j h => by
            by_cases e : j = k
            · rw [e, HOK.out, hin, hhs]; rfl
            · exact hj.out j (by omega))
          clear hj hin HOK HHA hhs
          generalize order.getD k 0 = z at *
          go_wp2_with fail
          refine wp_region_noPanic ?_
          refine wp_region_held_drew (S := fun w' => w'.cell? ⟨bo, oo + k, none⟩ = some (.int .i64 z) ∧ w'.cell? ⟨b0, off0, none⟩ = some (.slice p0 m q0)) (by kernel_rfl) ?_ (fun hHeld => ?_)
          · exact ⟨hco, hc0r⟩
          refine wpAnyH_take (i := 0) (v := ?_) rfl (by kernel_rfl) (by kernel_rfl) (by kernel_rfl) (fun _ _ _ h => h) (Or.inl ⟨by rfl, ?_⟩) (by assumption) ?_
          rotate_left
          · intro w9 hSw; (try dsimp only at hSw); go_simp; try with_reducible rfl
          try simp only [List.getElem_toArray, List.getElem_cons_succ, List.getElem_cons_zero, Act.put, List.setIfInBounds_toArray, List.set_cons_zero, List.set_cons_succ]
          refine wpAnyH_take (i := 1) (v := ?_) rfl (by kernel_rfl) (by kernel_rfl) (by kernel_rfl) (fun _ _ _ h => h) (Or.inl ⟨by rfl, ?_⟩) (by assumption) ?_
          rotate_left
          · intro w9 hSw; (try dsimp only at hSw); go_simp; try with_reducible rfl
          try simp only [List.getElem_toArray, List.getElem_cons_succ, List.getElem_cons_zero, Act.put, List.setIfInBounds_toArray, List.set_cons_zero, List.set_cons_succ]
          refine wpAnyH_take (i := 2) (v := ?_) rfl (by kernel_rfl) (by kernel_rfl) (by kernel_rfl) (fun _ _ _ h => h) (Or.inl ⟨by rfl, ?_⟩) (by assumption) ?_
          rotate_left
          · intro w9 hSw; (try dsimp only at hSw); go_simp; try with_reducible rfl
          try simp only [List.getElem_toArray, List.getElem_cons_succ, List.getElem_cons_zero, Act.put, List.setIfInBounds_toArray, List.set_cons_zero, List.set_cons_succ]
          refine wpAnyH_take (i := 3) (v := ?_) rfl (by kernel_rfl) (by kernel_rfl) (by kernel_rfl) (fun _ _ _ h => h) (Or.inl ⟨by rfl, ?_⟩) (by assumption) ?_
          rotate_left
          · intro w9 hSw; (try dsimp only at hSw); go_simp; try with_reducible rfl
          try simp only [List.getElem_toArray, List.getElem_cons_succ, List.getElem_cons_zero, Act.put, List.setIfInBounds_toArray, List.set_cons_zero, List.set_cons_succ]
          refine wpAnyH_take (i := 4) (v := ?_) rfl (by kernel_rfl) (by kernel_rfl) (by kernel_rfl) (fun _ _ _ h => h) (Or.inl ⟨by rfl, ?_⟩) (by assumption) ?_
          rotate_left
          · intro w9 hSw; (try dsimp only at hSw); go_simp; try with_reducible rfl
          try simp only [List.getElem_toArray, List.getElem_cons_succ, List.getElem_cons_zero, Act.put, List.setIfInBounds_toArray, List.set_cons_zero, List.set_cons_succ]
          refine wpAnyH_take (i := 5) (v := ?_) rfl (by kernel_rfl) (by kernel_rfl) (by kernel_rfl) (fun _ _ _ h => h) (Or.inl ⟨by rfl, ?_⟩) (by assumption) ?_
          rotate_left
          · intro w9 hSw; (try dsimp only at hSw); go_simp; try with_reducible rfl
          try simp only [List.getElem_toArray, List.getElem_cons_succ, List.getElem_cons_zero, Act.put, List.setIfInBounds_toArray, List.set_cons_zero, List.set_cons_succ]
          refine wpAnyH_take (i := 6) (v := ?_) rfl (by kernel_rfl) (by kernel_rfl) (by kernel_rfl) (fun _ _ _ h => h) (Or.inl ⟨by rfl, ?_⟩) (by assumption) ?_
          rotate_left
          · intro w9 hSw; (try dsimp only at hSw); go_simp; try with_reducible rfl
          try simp only [List.getElem_toArray, List.getElem_cons_succ, List.getElem_cons_zero, Act.put, List.setIfInBounds_toArray, List.set_cons_zero, List.set_cons_succ]
          refine wpAnyH_take (i := 7) (v := ?_) rfl (by kernel_rfl) (by kernel_rfl) (by kernel_rfl) (fun _ _ _ h => h) (Or.inl ⟨by rfl, ?_⟩) (by assumption) ?_
          rotate_left
          · intro w9 hSw; (try dsimp only at hSw); go_simp; try with_reducible rfl
          try simp only [List.getElem_toArray, List.getElem_cons_succ, List.getElem_cons_zero, Act.put, List.setIfInBounds_toArray, List.set_cons_zero, List.set_cons_succ]
          refine wpAnyH_take (i := 8) (v := ?_) rfl (by kernel_rfl) (by kernel_rfl) (by kernel_rfl) (fun _ _ _ h => h) (Or.inl ⟨by rfl, ?_⟩) (by assumption) ?_
          rotate_left
          · intro w9 hSw; (try dsimp only at hSw); go_simp; try with_reducible rfl
          try simp only [List.getElem_toArray, List.getElem_cons_succ, List.getElem_cons_zero, Act.put, List.setIfInBounds_toArray, List.set_cons_zero, List.set_cons_succ]
          refine wpAnyH_ready (rs := [9]) (by kernel_rfl) (by simp) ?_
          refine AllReadyH.cons rfl (fun K hK => ?_) AllReadyH.nil
          clear hHeld
          go_simp
          refine (HI.out _).mono ?_
          rintro e w' ⟨rfl, rfl⟩
          refine hK.out _ _ ?_ (fun hHeld => ?_)
          · exact ⟨hco, hc0r⟩
          clear hK K
          try simp only [List.getElem_toArray, List.getElem_cons_succ, List.getElem_cons_zero, Act.put, List.setIfInBounds_toArray, List.set_cons_zero, List.set_cons_succ]
          refine wpAnyH_take (i := 10) (v := ?_) rfl (by kernel_rfl) (by kernel_rfl) (by kernel_rfl) (fun _ _ _ h => h) (Or.inl ⟨by rfl, ?_⟩) (by assumption) ?_
          rotate_left
          · intro w9 hSw; (try dsimp only at hSw); go_simp; try with_reducible rfl
          try simp only [List.getElem_toArray, List.getElem_cons_succ, List.getElem_cons_zero, Act.put, List.setIfInBounds_toArray, List.set_cons_zero, List.set_cons_succ]
          refine wpAnyH_take (i := 11) (v := ?_) rfl (by kernel_rfl) (by kernel_rfl) (by kernel_rfl) (fun _ _ _ h => h) (Or.inl ⟨by rfl, ?_⟩) (by assumption) ?_
          rotate_left
          · intro w9 hSw; (try dsimp only at hSw); go_simp; try with_reducible rfl
          try simp only [List.getElem_toArray, List.getElem_cons_succ, List.getElem_cons_zero, Act.put, List.setIfInBounds_toArray, List.set_cons_zero, List.set_cons_succ]
          refine wpAnyH_take (i := 12) (v := ?_) rfl (by kernel_rfl) (by kernel_rfl) (by kernel_rfl) (fun _ _ _ h => h) (Or.inl ⟨by rfl, ?_⟩) (by assumption) ?_
          rotate_left
          · intro w9 hSw; (try dsimp only at hSw); go_simp; try with_reducible rfl
          try simp only [List.getElem_toArray, List.getElem_cons_succ, List.getElem_cons_zero, Act.put, List.setIfInBounds_toArray, List.set_cons_zero, List.set_cons_succ]
          refine wpAnyH_take (i := 13) (v := ?_) rfl (by kernel_rfl) (by kernel_rfl) (by kernel_rfl) (fun _ _ _ h => h) (Or.inl ⟨by rfl, ?_⟩) (by assumption) ?_
          rotate_left
          · intro w9 hSw; (try dsimp only at hSw); go_simp; try with_reducible rfl
          try simp only [List.getElem_toArray, List.getElem_cons_succ, List.getElem_cons_zero, Act.put, List.setIfInBounds_toArray, List.set_cons_zero, List.set_cons_succ]
          refine wpAnyH_take (i := 14) (v := ?_) rfl (by kernel_rfl) (by kernel_rfl) (by kernel_rfl) (fun _ _ _ h => h) (Or.inl ⟨by rfl, ?_⟩) (by assumption) ?_
          rotate_left
          · intro w9 hSw; (try dsimp only at hSw); go_simp; try with_reducible rfl
          try simp only [List.getElem_toArray, List.getElem_cons_succ, List.getElem_cons_zero, Act.put, List.setIfInBounds_toArray, List.set_cons_zero, List.set_cons_succ]
          refine wpAnyH_take (i := 15) (v := ?_) rfl (by kernel_rfl) (by kernel_rfl) (by kernel_rfl) (fun _ _ _ h => h) (Or.inl ⟨by rfl, ?_⟩) (by assumption) ?_
          rotate_left
          · intro w9 hSw; (try dsimp only at hSw); go_simp; try with_reducible rfl
          try simp only [List.getElem_toArray, List.getElem_cons_succ, List.getElem_cons_zero, Act.put, List.setIfInBounds_toArray, List.set_cons_zero, List.set_cons_succ]
          refine wpAnyH_take (i := 16) (v := ?_) rfl (by kernel_rfl) (by kernel_rfl) (by kernel_rfl) (fun _ _ _ h => h) (Or.inl ⟨by rfl, ?_⟩) (by assumption) ?_
          rotate_left
          · intro w9 hSw; (try dsimp only at hSw); go_simp; try with_reducible rfl
          try simp only [List.getElem_toArray, List.getElem_cons_succ, List.getElem_cons_zero, Act.put, List.setIfInBounds_toArray, List.set_cons_zero, List.set_cons_succ]
          refine wpAnyH_take (i := 17) (v := ?_) rfl (by kernel_rfl) (by kernel_rfl) (by kernel_rfl) (fun _ _ _ h => h) (Or.inl ⟨by rfl, ?_⟩) (by assumption) ?_
          rotate_left
          · intro w9 hSw; (try dsimp only at hSw); go_simp; try with_reducible rfl
          try simp only [List.getElem_toArray, List.getElem_cons_succ, List.getElem_cons_zero, Act.put, List.setIfInBounds_toArray, List.set_cons_zero, List.set_cons_succ]
          refine wpAnyH_take (i := 18) (v := ?_) rfl (by kernel_rfl) (by kernel_rfl) (by kernel_rfl) (fun _ _ _ h => h) (Or.inl ⟨by rfl, ?_⟩) (by assumption) ?_
          rotate_left
          · intro w9 hSw; (try dsimp only at hSw); go_simp; try with_reducible rfl
          try simp only [List.getElem_toArray, List.getElem_cons_succ, List.getElem_cons_zero, Act.put, List.setIfInBounds_toArray, List.set_cons_zero, List.set_cons_succ]
          refine wpAnyH_ready (rs := [19]) (by kernel_rfl) (by simp) ?_
          refine AllReadyH.cons rfl (fun K hK => ?_) AllReadyH.nil
          clear hHeld
          go_simp
          refine (HHS.out _ (Below.refl _ _).drew).mono ?_
          rintro e w' ⟨rfl, rfl⟩
          refine hK.out _ _ ?_ (fun hHeld => ?_)
          · exact ⟨hco, hc0r⟩
          clear hK K
          try simp only [List.getElem_toArray, List.getElem_cons_succ, List.getElem_cons_zero, Act.put, List.setIfInBounds_toArray, List.set_cons_zero, List.set_cons_succ]
          refine wpAnyH_take (i := 20) (v := ?_) rfl (by kernel_rfl) (by kernel_rfl) (by kernel_rfl) (fun _ _ _ h => h) (Or.inl ⟨by rfl, ?_⟩) (by assumption) ?_
          rotate_left
          · intro w9 hSw; (try dsimp only at hSw); go_simp; try with_reducible rfl
          try simp only [List.getElem_toArray, List.getElem_cons_succ, List.getElem_cons_zero, Act.put, List.setIfInBounds_toArray, List.set_cons_zero, List.set_cons_succ]
          refine wpAnyH_done (by kernel_rfl) ?_ _
          refine NoPanic.normal ?_
          clear hHeld
          go_wp2_with fail
          go_roundw
          case rel => exact ⟨k + 1, by omega, by go_num, HJ, HBl.out.trans ((Below.refl wr.heap.size wr).drew.mono HBl.out.size)⟩
          case measure => simp [intOf]; omega
        · have HHS := Lib.hid (HHA.out true (Lib.hid hhs))
          obtain rfl : ok = false := by rw [← h.out]; exact diff_no k hlt (by rw [HOK.out, hhs]; simp)
          clear h hj hin HOK HHA hhs
          generalize order.getD k 0 = z at *
          go_wp2_with fail
          refine wp_region_noPanic ?_
          refine wp_region_held_drew (S := fun w' => w'.cell? ⟨bo, oo + k, none⟩ = some (.int .i64 z) ∧ w'.cell? ⟨b0, off0, none⟩ = some (.slice p0 m q0)) (by kernel_rfl) ?_ (fun hHeld => ?_)
          · exact ⟨hco, hc0r⟩
          refine wpAnyH_take (i := 0) (v := ?_) rfl (by kernel_rfl) (by kernel_rfl) (by kernel_rfl) (fun _ _ _ h => h) (Or.inl ⟨by rfl, ?_⟩) (by assumption) ?_
          rotate_left
          · intro w9 hSw; (try dsimp only at hSw); go_simp; try with_reducible rfl
          try simp only [List.getElem_toArray, List.getElem_cons_succ, List.getElem_cons_zero, Act.put, List.setIfInBounds_toArray, List.set_cons_zero, List.set_cons_succ]
          refine wpAnyH_take (i := 1) (v := ?_) rfl (by kernel_rfl) (by kernel_rfl) (by kernel_rfl) (fun _ _ _ h => h) (Or.inl ⟨by rfl, ?_⟩) (by assumption) ?_
          rotate_left
          · intro w9 hSw; (try dsimp only at hSw); go_simp; try with_reducible rfl
          try simp only [List.getElem_toArray, List.getElem_cons_succ, List.getElem_cons_zero, Act.put, List.setIfInBounds_toArray, List.set_cons_zero, List.set_cons_succ]
          refine wpAnyH_take (i := 2) (v := ?_) rfl (by kernel_rfl) (by kernel_rfl) (by kernel_rfl) (fun _ _ _ h => h) (Or.inl ⟨by rfl, ?_⟩) (by assumption) ?_
          rotate_left
          · intro w9 hSw; (try dsimp only at hSw); go_simp; try with_reducible rfl
          try simp only [List.getElem_toArray, List.getElem_cons_succ, List.getElem_cons_zero, Act.put, List.setIfInBounds_toArray, List.set_cons_zero, List.set_cons_succ]
          refine wpAnyH_take (i := 3) (v := ?_) rfl (by kernel_rfl) (by kernel_rfl) (by kernel_rfl) (fun _ _ _ h => h) (Or.inl ⟨by rfl, ?_⟩) (by assumption) ?_
          rotate_left
          · intro w9 hSw; (try dsimp only at hSw); go_simp; try with_reducible rfl
          try simp only [List.getElem_toArray, List.getElem_cons_succ, List.getElem_cons_zero, Act.put, List.setIfInBounds_toArray, List.set_cons_zero, List.set_cons_succ]
          refine wpAnyH_take (i := 4) (v := ?_) rfl (by kernel_rfl) (by kernel_rfl) (by kernel_rfl) (fun _ _ _ h => h) (Or.inl ⟨by rfl, ?_⟩) (by assumption) ?_
          rotate_left
          · intro w9 hSw; (try dsimp only at hSw); go_simp; try with_reducible rfl
          try simp only [List.getElem_toArray, List.getElem_cons_succ, List.getElem_cons_zero, Act.put, List.setIfInBounds_toArray, List.set_cons_zero, List.set_cons_succ]
          refine wpAnyH_take (i := 5) (v := ?_) rfl (by kernel_rfl) (by kernel_rfl) (by kernel_rfl) (fun _ _ _ h => h) (Or.inl ⟨by rfl, ?_⟩) (by assumption) ?_
          rotate_left
          · intro w9 hSw; (try dsimp only at hSw); go_simp; try with_reducible rfl
          try simp only [List.getElem_toArray, List.getElem_cons_succ, List.getElem_cons_zero, Act.put, List.setIfInBounds_toArray, List.set_cons_zero, List.set_cons_succ]
          refine wpAnyH_take (i := 6) (v := ?_) rfl (by kernel_rfl) (by kernel_rfl) (by kernel_rfl) (fun _ _ _ h => h) (Or.inl ⟨by rfl, ?_⟩) (by assumption) ?_
          rotate_left
          · intro w9 hSw; (try dsimp only at hSw); go_simp; try with_reducible rfl
          try simp only [List.getElem_toArray, List.getElem_cons_succ, List.getElem_cons_zero, Act.put, List.setIfInBounds_toArray, List.set_cons_zero, List.set_cons_succ]
          refine wpAnyH_take (i := 7) (v := ?_) rfl (by kernel_rfl) (by kernel_rfl) (by kernel_rfl) (fun _ _ _ h => h) (Or.inl ⟨by rfl, ?_⟩) (by assumption) ?_
          rotate_left
          · intro w9 hSw; (try dsimp only at hSw); go_simp; try with_reducible rfl
          try simp only [List.getElem_toArray, List.getElem_cons_succ, List.getElem_cons_zero, Act.put, List.setIfInBounds_toArray, List.set_cons_zero, List.set_cons_succ]
          refine wpAnyH_take (i := 8) (v := ?_) rfl (by kernel_rfl) (by kernel_rfl) (by kernel_rfl) (fun _ _ _ h => h) (Or.inl ⟨by rfl, ?_⟩) (by assumption) ?_
          rotate_left
          · intro w9 hSw; (try dsimp only at hSw); go_simp; try with_reducible rfl
          try simp only [List.getElem_toArray, List.getElem_cons_succ, List.getElem_cons_zero, Act.put, List.setIfInBounds_toArray, List.set_cons_zero, List.set_cons_succ]
          refine wpAnyH_ready (rs := [9]) (by kernel_rfl) (by simp) ?_
          refine AllReadyH.cons rfl (fun K hK => ?_) AllReadyH.nil
          clear hHeld
          go_simp
          refine (HI.out _).mono ?_
          rintro e w' ⟨rfl, rfl⟩
          refine hK.out _ _ ?_ (fun hHeld => ?_)
          · exact ⟨hco, hc0r⟩
          clear hK K
          try simp only [List.getElem_toArray, List.getElem_cons_succ, List.getElem_cons_zero, Act.put, List.setIfInBounds_toArray, List.set_cons_zero, List.set_cons_succ]
          refine wpAnyH_take (i := 10) (v := ?_) rfl (by kernel_rfl) (by kernel_rfl) (by kernel_rfl) (fun _ _ _ h => h) (Or.inl ⟨by rfl, ?_⟩) (by assumption) ?_
          rotate_left
          · intro w9 hSw; (try dsimp only at hSw); go_simp; try with_reducible rfl
          try simp only [List.getElem_toArray, List.getElem_cons_succ, List.getElem_cons_zero, Act.put, List.setIfInBounds_toArray, List.set_cons_zero, List.set_cons_succ]
          refine wpAnyH_take (i := 11) (v := ?_) rfl (by kernel_rfl) (by kernel_rfl) (by kernel_rfl) (fun _ _ _ h => h) (Or.inl ⟨by rfl, ?_⟩) (by assumption) ?_
          rotate_left
          · intro w9 hSw; (try dsimp only at hSw); go_simp; try with_reducible rfl
          try simp only [List.getElem_toArray, List.getElem_cons_succ, List.getElem_cons_zero, Act.put, List.setIfInBounds_toArray, List.set_cons_zero, List.set_cons_succ]
          refine wpAnyH_take (i := 12) (v := ?_) rfl (by kernel_rfl) (by kernel_rfl) (by kernel_rfl) (fun _ _ _ h => h) (Or.inl ⟨by rfl, ?_⟩) (by assumption) ?_
          rotate_left
          · intro w9 hSw; (try dsimp only at hSw); go_simp; try with_reducible rfl
          try simp only [List.getElem_toArray, List.getElem_cons_succ, List.getElem_cons_zero, Act.put, List.setIfInBounds_toArray, List.set_cons_zero, List.set_cons_succ]
          refine wpAnyH_take (i := 13) (v := ?_) rfl (by kernel_rfl) (by kernel_rfl) (by kernel_rfl) (fun _ _ _ h => h) (Or.inl ⟨by rfl, ?_⟩) (by assumption) ?_
          rotate_left
          · intro w9 hSw; (try dsimp only at hSw); go_simp; try with_reducible rfl
          try simp only [List.getElem_toArray, List.getElem_cons_succ, List.getElem_cons_zero, Act.put, List.setIfInBounds_toArray, List.set_cons_zero, List.set_cons_succ]
          refine wpAnyH_take (i := 14) (v := ?_) rfl (by kernel_rfl) (by kernel_rfl) (by kernel_rfl) (fun _ _ _ h => h) (Or.inl ⟨by rfl, ?_⟩) (by assumption) ?_
          rotate_left
          · intro w9 hSw; (try dsimp only at hSw); go_simp; try with_reducible rfl
          try simp only [List.getElem_toArray, List.getElem_cons_succ, List.getElem_cons_zero, Act.put, List.setIfInBounds_toArray, List.set_cons_zero, List.set_cons_succ]
          refine wpAnyH_take (i := 15) (v := ?_) rfl (by kernel_rfl) (by kernel_rfl) (by kernel_rfl) (fun _ _ _ h => h) (Or.inl ⟨by rfl, ?_⟩) (by assumption) ?_
          rotate_left
          · intro w9 hSw; (try dsimp only at hSw); go_simp; try with_reducible rfl
          try simp only [List.getElem_toArray, List.getElem_cons_succ, List.getElem_cons_zero, Act.put, List.setIfInBounds_toArray, List.set_cons_zero, List.set_cons_succ]
          refine wpAnyH_take (i := 16) (v := ?_) rfl (by kernel_rfl) (by kernel_rfl) (by kernel_rfl) (fun _ _ _ h => h) (Or.inl ⟨by rfl, ?_⟩) (by assumption) ?_
          rotate_left
          · intro w9 hSw; (try dsimp only at hSw); go_simp; try with_reducible rfl
          try simp only [List.getElem_toArray, List.getElem_cons_succ, List.getElem_cons_zero, Act.put, List.setIfInBounds_toArray, List.set_cons_zero, List.set_cons_succ]
          refine wpAnyH_take (i := 17) (v := ?_) rfl (by kernel_rfl) (by kernel_rfl) (by kernel_rfl) (fun _ _ _ h => h) (Or.inl ⟨by rfl, ?_⟩) (by assumption) ?_
          rotate_left
          · intro w9 hSw; (try dsimp only at hSw); go_simp; try with_reducible rfl
          try simp only [List.getElem_toArray, List.getElem_cons_succ, List.getElem_cons_zero, Act.put, List.setIfInBounds_toArray, List.set_cons_zero, List.set_cons_succ]
          refine wpAnyH_take (i := 18) (v := ?_) rfl (by kernel_rfl) (by kernel_rfl) (by kernel_rfl) (fun _ _ _ h => h) (Or.inl ⟨by rfl, ?_⟩) (by assumption) ?_
          rotate_left
          · intro w9 hSw; (try dsimp only at hSw); go_simp; try with_reducible rfl
          try simp only [List.getElem_toArray, List.getElem_cons_succ, List.getElem_cons_zero, Act.put, List.setIfInBounds_toArray, List.set_cons_zero, List.set_cons_succ]
          refine wpAnyH_ready (rs := [19]) (by kernel_rfl) (by simp) ?_
          refine AllReadyH.cons rfl (fun K hK => ?_) AllReadyH.nil
          clear hHeld
          go_simp
          refine (HHS.out _ (Below.refl _ _).drew).mono ?_
          rintro e w' ⟨rfl, rfl⟩
          refine hK.out _ _ ?_ (fun hHeld => ?_)
          · exact ⟨hco, hc0r⟩
          clear hK K
          try simp only [List.getElem_toArray, List.getElem_cons_succ, List.getElem_cons_zero, Act.put, List.setIfInBounds_toArray, List.set_cons_zero, List.set_cons_succ]
          refine wpAnyH_take (i := 20) (v := ?_) rfl (by kernel_rfl) (by kernel_rfl) (by kernel_rfl) (fun _ _ _ h => h) (Or.inl ⟨by rfl, ?_⟩) (by assumption) ?_
          rotate_left
          · intro w9 hSw; (try dsimp only at hSw); go_simp; try with_reducible rfl
          try simp only [List.getElem_toArray, List.getElem_cons_succ, List.getElem_cons_zero, Act.put, List.setIfInBounds_toArray, List.set_cons_zero, List.set_cons_succ]
          refine wpAnyH_done (by kernel_rfl) ?_ _
          refine NoPanic.normal ?_
          clear hHeld
          go_wp2_with fail
          go_ret
          exact ⟨rfl, HBl.out.trans ((Below.refl wr.heap.size wr).drew.mono HBl.out.size)⟩
    · obtain rfl : k = order.length := by omega
      obtain rfl : ok = true := by rw [← h.out]; exact diff_ok hj.out
      have HBl := Lib.hid hbel
      clear h hj hbel
      go_wp2_with fail
      go_ret
      exact ⟨rfl, HBl.out⟩
set_option maxRecDepth 100000 in
set_option maxHeartbeats 4000000 in
theorem spec_no1 (a : Option Addr) (rows : List (List Int)) (c : Nat) (t : Int) (ao : Option Addr) (order : List Int) (co : Nat) (w : World) (hr : grid.Reads w a rows) (hq : ints.Reads .i64 w ao order) (hcp : order.length ≤ co) (hn : rows.length ≤ 1048576) (hm : ∀ r ∈ rows, r.length ≤ 1048576) (hz : order.length ≤ 1048576) (hk : classB rows = false) :
    Calls Try.prog 44 #[.slice a rows.length c, .int .i64 t, .slice ao order.length co] w (RetIB [] false w) := by
  have HC := Lib.hid (fun (wa : World) (hb : Below w.heap.size w wa) => classs.spec_class a rows c wa (hr.below hb) hn hm false (Lib.hid hk))
  clear hr hq hm hk
  go_enter Try.func44, Try.ntmps44
  go_wp2_with fail
  obtain ⟨w1, hw1⟩ : ∃ w1 : World, w1 = w.alloc (.cells #[] 3) := ⟨_, rfl⟩
  have hown1 := (own_empty w).1
  rw [← hw1] at hown1
  have HB1 := Lib.hid (show Below w.heap.size w w1 by rw [hw1]; exact below_alloc w _)
  have s1 : w.heap.size + 1 ≤ w1.heap.size := by rw [hw1]; simp
  rw [← hw1]
  clear hw1
  refine (HC.out _ HB1.out).mono ?_
  rintro e w' ⟨rfl, m9, rfl⟩
  have hown2 : (w1.drewN m9).ownsRow w.heap.size 3 1 (.slice (some ⟨w.heap.size, 0, none⟩) 0 0) 0 [] := hown1
  have HB2 := Lib.hid (ints.below_drewN HB1.out m9)
  generalize w1.drewN m9 = w2 at *
  have HOW := Lib.hid hown2
  have HBF := Lib.hid HB2.out
  clear hown1 hown2
  go_wp2_with fail
  go_ret2
  exact ⟨_, rfl, (show OwnI w.heap.size w2.heap.size w2 (.slice (some ⟨w.heap.size, 0, none⟩) 0 0) [] from OwnI.of HOW.out), HBF.out⟩
set_option maxRecDepth 100000 in
set_option maxHeartbeats 4000000 in
theorem spec_no2 (a : Option Addr) (rows : List (List Int)) (c : Nat) (t : Int) (ao : Option Addr) (order : List Int) (co : Nat) (w : World) (hr : grid.Reads w a rows) (hq : ints.Reads .i64 w ao order) (hcp : order.length ≤ co) (hn : rows.length ≤ 1048576) (hm : ∀ r ∈ rows, r.length ≤ 1048576) (hz : order.length ≤ 1048576) (hk : classB rows = true) (hi : (decide (0 ≤ t) && decide (t ≤ (rows.length : Int) - 1)) = false) :
    Calls Try.prog 44 #[.slice a rows.length c, .int .i64 t, .slice ao order.length co] w (RetIB [] false w) := by
  have HC := Lib.hid (fun (wa : World) (hb : Below w.heap.size w wa) => classs.spec_class a rows c wa (hr.below hb) hn hm true (Lib.hid hk))
  have e1 : IntKind.i64.wrap ((rows.length : Int) - 1) = (rows.length : Int) - 1 := IntWalk.i64_in _ (by omega)
  have HI := Lib.hid (fun (wa : World) => nums.in_any t 0 ((rows.length : Int) - 1) wa false (Lib.hid hi))
  clear hr hq hm hk hi
  go_enter Try.func44, Try.ntmps44
  go_wp2_with fail
  obtain ⟨w1, hw1⟩ : ∃ w1 : World, w1 = w.alloc (.cells #[] 3) := ⟨_, rfl⟩
  have hown1 := (own_empty w).1
  rw [← hw1] at hown1
  have HB1 := Lib.hid (show Below w.heap.size w w1 by rw [hw1]; exact below_alloc w _)
  have s1 : w.heap.size + 1 ≤ w1.heap.size := by rw [hw1]; simp
  rw [← hw1]
  clear hw1
  refine (HC.out _ HB1.out).mono ?_
  rintro e w' ⟨rfl, m9, rfl⟩
  have hown2 : (w1.drewN m9).ownsRow w.heap.size 3 1 (.slice (some ⟨w.heap.size, 0, none⟩) 0 0) 0 [] := hown1
  have HB2 := Lib.hid (ints.below_drewN HB1.out m9)
  generalize w1.drewN m9 = w2 at *
  have HOW := Lib.hid hown2
  have HBF := Lib.hid HB2.out
  clear hown1 hown2
  go_wp2_with fail
  refine (HI.out _).mono ?_
  rintro e w' ⟨rfl, rfl⟩
  go_wp2_with fail
  go_ret2
  exact ⟨_, rfl, (show OwnI w.heap.size w2.heap.size w2 (.slice (some ⟨w.heap.size, 0, none⟩) 0 0) [] from OwnI.of HOW.out), HBF.out⟩
set_option maxRecDepth 100000 in
set_option maxHeartbeats 4000000 in
theorem spec_no3 (a : Option Addr) (rows : List (List Int)) (c : Nat) (t : Int) (ao : Option Addr) (order : List Int) (co : Nat) (w : World) (hr : grid.Reads w a rows) (hq : ints.Reads .i64 w ao order) (hcp : order.length ≤ co) (hn : rows.length ≤ 1048576) (hm : ∀ r ∈ rows, r.length ≤ 1048576) (hz : order.length ≤ 1048576) (hk : classB rows = true) (hi : (decide (0 ≤ t) && decide (t ≤ (rows.length : Int) - 1)) = true) (hd : diffB (rows.getD 0 []).length order = false) :
    Calls Try.prog 44 #[.slice a rows.length c, .int .i64 t, .slice ao order.length co] w (RetIB [] false w) := by
  have HC := Lib.hid (fun (wa : World) (hb : Below w.heap.size w wa) => classs.spec_class a rows c wa (hr.below hb) hn hm true (Lib.hid hk))
  have e1 : IntKind.i64.wrap ((rows.length : Int) - 1) = (rows.length : Int) - 1 := IntWalk.i64_in _ (by omega)
  have HI := Lib.hid (fun (wa : World) => nums.in_any t 0 ((rows.length : Int) - 1) wa true (Lib.hid hi))
  have HD := Lib.hid (fun (wa : World) (hb : Below w.heap.size w wa) => spec_order a rows c ao order co wa (hr.below hb) hk (hq.below hb) hcp hz false (Lib.hid hd))
  clear hr hq hm hk hi hd
  go_enter Try.func44, Try.ntmps44
  go_wp2_with fail
  obtain ⟨w1, hw1⟩ : ∃ w1 : World, w1 = w.alloc (.cells #[] 3) := ⟨_, rfl⟩
  have hown1 := (own_empty w).1
  rw [← hw1] at hown1
  have HB1 := Lib.hid (show Below w.heap.size w w1 by rw [hw1]; exact below_alloc w _)
  have s1 : w.heap.size + 1 ≤ w1.heap.size := by rw [hw1]; simp
  rw [← hw1]
  clear hw1
  refine (HC.out _ HB1.out).mono ?_
  rintro e w' ⟨rfl, m9, rfl⟩
  have hown2 : (w1.drewN m9).ownsRow w.heap.size 3 1 (.slice (some ⟨w.heap.size, 0, none⟩) 0 0) 0 [] := hown1
  have HB2 := Lib.hid (ints.below_drewN HB1.out m9)
  generalize w1.drewN m9 = w2 at *
  go_wp2_with fail
  refine (HI.out _).mono ?_
  rintro e w' ⟨rfl, hww⟩
  rw [← hww]
  clear hww w'
  go_wp2_with fail
  refine (HD.out _ HB2.out).mono ?_
  rintro e w3 ⟨rfl, hb3⟩
  have HOW := Lib.hid (ownsRow_block hown2 (fun g e => hb3.block g (hown2.lt g e).2))
  have HBF := Lib.hid (HB2.out.trans (hb3.mono HB2.out.size))
  clear hb3 hown1 hown2
  go_wp2_with fail
  go_ret2
  exact ⟨_, rfl, (show OwnI w.heap.size w3.heap.size w3 (.slice (some ⟨w.heap.size, 0, none⟩) 0 0) [] from OwnI.of HOW.out), HBF.out⟩
set_option maxRecDepth 100000 in
set_option maxHeartbeats 4000000 in
theorem spec_yes (a : Option Addr) (rows : List (List Int)) (c : Nat) (t : Nat) (ao : Option Addr) (order : List Int) (co : Nat) (w : World) (hr : grid.Reads w a rows) (hq : ints.Reads .i64 w ao order) (hcp : order.length ≤ co) (hn : rows.length ≤ 1048576) (hm : ∀ r ∈ rows, r.length ≤ 1048576) (hz : order.length ≤ 1048576) (hk : classB rows = true) (ht : t < rows.length) (hd : diffB (rows.getD 0 []).length order = true) :
    Calls Try.prog 44 #[.slice a rows.length c, .int .i64 t, .slice ao order.length co] w (RetIB (playTo rows t order order.length) true w) := by
  have HC := Lib.hid (fun (wa : World) (hb : Below w.heap.size w wa) => classs.spec_class a rows c wa (hr.below hb) hn hm true (Lib.hid hk))
  have e1 : IntKind.i64.wrap ((rows.length : Int) - 1) = (rows.length : Int) - 1 := IntWalk.i64_in _ (by omega)
  obtain ⟨i0, hi, hz0, hz1, hz2⟩ := info_parts mk.infoInt
  have HI := Lib.hid (fun (wa : World) => nums.in_any (t : Int) 0 ((rows.length : Int) - 1) wa true (Lib.hid (by simp; omega)))
  have HD := Lib.hid (fun (wa : World) (hb : Below w.heap.size w wa) => spec_order a rows c ao order co wa (hr.below hb) hk (hq.below hb) hcp hz true (Lib.hid hd))
  have hC := cls_of hk
  obtain ⟨b0, off0, p0, q0, rfl, hc0, hlen, h8⟩ := classt.row0 hr hk
  have h256 := hC.top
  have HIN := Lib.hid (diff_inside hd)
  have HPM := Lib.hid (fun j (hj : j < rows.length) x (hx : x < (rows.getD 0 []).length) => hC.at hj hx)
  have HLN := Lib.hid (fun j (hj : j < rows.length) => hC.len j hj)
  have hol := diff_len hd
  obtain ⟨m, hm0⟩ : ∃ m, (rows.getD 0 []).length = m := ⟨_, rfl⟩
  rw [hm0] at HIN HPM HLN h8 hol
  have HR := Lib.hid hr
  have HQ := Lib.hid hq
  have HVL := Lib.hid (fun i => vsel_length rows t order i)
  have HVM := Lib.hid (fun i j (h : j ∈ vsel rows t order i) => vsel_lt h)
  have HWB := Lib.hid (fun i => show wrongB rows t order i = (decide (0 ≤ sumTo rows (vsel rows t order i) (order.getD i 0).toNat (vsel rows t order i).length) != ((rows.getD t []).getD (order.getD i 0).toNat 0 == 1)) from rfl)
  have HPS := Lib.hid (fun i => show playTo rows t order (i + 1) = if wrongB rows t order i = true then playTo rows t order i ++ [order.getD i 0] else playTo rows t order i from rfl)
  have HP0 := Lib.hid (show playTo rows t order 0 = [] from rfl)
  have HPL := Lib.hid (fun i => play_length rows t order i)
  have HVE := Lib.hid (fun i => show pwh.placesTo (atw.hasB rows (order.take i) (atL (rows.getD t []) (order.take i))) rows.length = (vsel rows t order i).map (fun j : Nat => (j : Int)) from rfl)
  have HST := Lib.hid (fun i k => show sumTo rows (vsel rows t order i) (order.getD i 0).toNat (k + 1) = sumTo rows (vsel rows t order i) (order.getD i 0).toNat k + (rows.getD ((vsel rows t order i).getD k 0) []).getD (order.getD i 0).toNat 0 from rfl)
  have HIT := Lib.hid (fun i => inside_take HIN.out i)
  clear hr hq hm hk hd hC hm0 hc0
  go_enter Try.func44, Try.ntmps44
  go_wp2_with fail
  obtain ⟨w1, hw1⟩ : ∃ w1 : World, w1 = w.alloc (.cells #[] 3) := ⟨_, rfl⟩
  have hown1 := (own_empty w).1
  rw [← hw1] at hown1
  have HB1 := Lib.hid (show Below w.heap.size w w1 by rw [hw1]; exact below_alloc w _)
  have s1 : w.heap.size + 1 ≤ w1.heap.size := by rw [hw1]; simp
  rw [← hw1]
  clear hw1
  refine (HC.out _ HB1.out).mono ?_
  rintro e w' ⟨rfl, m9, rfl⟩
  have hown2 : (w1.drewN m9).ownsRow w.heap.size 3 1 (.slice (some ⟨w.heap.size, 0, none⟩) 0 0) 0 [] := hown1
  have HB2 := Lib.hid (ints.below_drewN HB1.out m9)
  generalize w1.drewN m9 = w2 at *
  go_wp2_with fail
  refine (HI.out _).mono ?_
  rintro e w' ⟨rfl, hww⟩
  rw [← hww]
  clear hww w'
  go_wp2_with fail
  refine (HD.out _ HB2.out).mono ?_
  rintro e w3 ⟨rfl, hb3⟩
  have hown3 := ownsRow_block hown2 (fun g e => hb3.block g (hown2.lt g e).2)
  have HB3 := Lib.hid (HB2.out.trans (hb3.mono HB2.out.size))
  clear hb3 hown1 hown2 HC HI HD
  go_wp2_with fail
  go_loopw [8, 9] (fun v z wr => ∃ (k : Nat), k ≤ order.length ∧ z = .int .i64 k ∧ wr.ownsRow w.heap.size 3 1 v (playTo rows t order k).length ((playTo rows t order k).map (Value.int .i64)) ∧ Below w.heap.size w wr) (fun _ z _ => order.length - (intOf z).toNat)
  case atStart => exact ⟨0, Nat.zero_le _, rfl, by rw [HP0.out]; exact hown3, HB3.out⟩
  case round =>
    clear hown3
    obtain ⟨k, hk, rfl, hown, hbel⟩ := hrel
    have hsz := hbel.size
    by_cases hlt : k < order.length
    · have hqr := HQ.out.below hbel
      obtain ⟨bo, oo, rfl, hbo, hco⟩ := hqr.at hlt
      obtain ⟨hx0, hx1⟩ := HIN.out k hlt
      obtain ⟨x, hx⟩ : ∃ x : Nat, order.getD k 0 = (x : Int) := ⟨(order.getD k 0).toNat, by omega⟩
      have hxm : x < m := by omega
      have hrr := HR.out.below hbel
      obtain ⟨b9, o9, p9, c9, e9, hb9, hc9, _, hr9⟩ := hrr.at ht
      cases e9
      have hlt9 := HLN.out t ht
      have htl : (order.take k).length = k := by rw [List.length_take]; omega
      have hal := at_length (rows.getD t []) (order.take k)
      rw [htl] at hal
      have HA := Lib.hid (fun (wa : World) (hb : Below wr.heap.size wr wa) => spec_at p9 (rows.getD t []) c9 (some ⟨bo, oo, none⟩) (order.take k) co wa (hr9.below hb) ((reads_take hqr k).below hb) (by omega) (by omega) (by rw [hlt9]; exact HIT.out k))
      have HVR := Lib.hid (fun (p1 : Option Addr) (c1 : Nat) (wa : World) (hb : Below wr.heap.size wr wa) (h1 : ints.Reads .i64 wa p1 (atL (rows.getD t []) (order.take k))) => spec_version (some ⟨b0, off0, none⟩) rows c (some ⟨bo, oo, none⟩) (order.take k) co p1 (atL (rows.getD t []) (order.take k)) c1 wa (hrr.below hb) ((reads_take hqr k).below hb) h1 h256 (fun j hj => by rw [HLN.out j hj]; exact ⟨h8, HIT.out k⟩) (by omega) (by omega))
      rw [HVE.out, htl] at HVR
      rw [htl] at HA
      have HWk := Lib.hid (HWB.out k)
      have HPk := Lib.hid (HPS.out k)
      have HSTk := Lib.hid (HST.out k)
      rw [hx, Int.toNat_natCast] at HWk HSTk
      rw [hx] at HPk hco
      rw [hlt9] at hc9 HA
      have hvl := HVL.out k
      have HVMk := Lib.hid (HVM.out k)
      have hpl := HPL.out k
      have HRR := Lib.hid hrr
      have HR9 := Lib.hid hr9
      have HO := Lib.hid hown
      have HV := Lib.hid hown.lt
      have HBl := Lib.hid hbel
      have HCO := Lib.hid hco
      have HC9 := Lib.hid hc9
      have HL9 := Lib.hid hlt9
      have i1 : (0 : Int) ≤ (k : Int) := by omega
      have i2 : (k : Int) < (order.length : Int) := by omega
      have i4 : (0 : Int) ≤ (x : Int) := by omega
      have i5 : (x : Int) < (m : Int) := by omega
      have i6 : (0 : Int) ≤ (t : Int) := by omega
      have i7 : (t : Int) < (rows.length : Int) := by omega
      have j1 : (k : Int) ≤ (co : Int) := by omega
      have j2 : k ≤ co := by omega
      have hy := HPM.out t ht x hxm
      clear hown hbel hx0 hx1 hx hr9 hlt9 hqr hrr htl hal
      generalize atL (rows.getD t []) (order.take k) = al at *
      generalize vsel rows t order k = sel at *
      go_wp2_with fail
      refine wp_region_noPanic ?_
      refine wp_region_held_drew (S := fun w' => w'.cell? ⟨b0, off0 + t, none⟩ = some (.slice p9 m c9)) (by kernel_rfl) ?_ (fun hHeld => ?_)
      · exact hc9
      refine wpAnyH_take (i := 0) (v := ?_) rfl (by kernel_rfl) (by kernel_rfl) (by kernel_rfl) (fun _ _ _ h => h) (Or.inl ⟨by rfl, ?_⟩) (by assumption) ?_
      rotate_left
      · intro w9 hSw; (try dsimp only at hSw); go_simp; try with_reducible rfl
      try simp only [List.getElem_toArray, List.getElem_cons_succ, List.getElem_cons_zero, Act.put, List.setIfInBounds_toArray, List.set_cons_zero, List.set_cons_succ]
      refine wpAnyH_take (i := 1) (v := ?_) rfl (by kernel_rfl) (by kernel_rfl) (by kernel_rfl) (fun _ _ _ h => h) (Or.inl ⟨by rfl, ?_⟩) (by assumption) ?_
      rotate_left
      · intro w9 hSw; (try dsimp only at hSw); go_simp; try with_reducible rfl
      try simp only [List.getElem_toArray, List.getElem_cons_succ, List.getElem_cons_zero, Act.put, List.setIfInBounds_toArray, List.set_cons_zero, List.set_cons_succ]
      refine wpAnyH_take (i := 2) (v := ?_) rfl (by kernel_rfl) (by kernel_rfl) (by kernel_rfl) (fun _ _ _ h => h) (Or.inl ⟨by rfl, ?_⟩) (by assumption) ?_
      rotate_left
      · intro w9 hSw; (try dsimp only at hSw); go_simp; try with_reducible rfl
      try simp only [List.getElem_toArray, List.getElem_cons_succ, List.getElem_cons_zero, Act.put, List.setIfInBounds_toArray, List.set_cons_zero, List.set_cons_succ]
      refine wpAnyH_take (i := 3) (v := ?_) rfl (by kernel_rfl) (by kernel_rfl) (by kernel_rfl) (fun _ _ _ h => h) (Or.inl ⟨by rfl, ?_⟩) (by assumption) ?_
      rotate_left
      · intro w9 hSw; (try dsimp only at hSw); go_simp; try with_reducible rfl
      try simp only [List.getElem_toArray, List.getElem_cons_succ, List.getElem_cons_zero, Act.put, List.setIfInBounds_toArray, List.set_cons_zero, List.set_cons_succ]
      refine wpAnyH_take (i := 4) (v := ?_) rfl (by kernel_rfl) (by kernel_rfl) (by kernel_rfl) (fun _ _ _ h => h) (Or.inl ⟨by rfl, ?_⟩) (by assumption) ?_
      rotate_left
      · intro w9 hSw; (try dsimp only at hSw); go_simp; try with_reducible rfl
      try simp only [List.getElem_toArray, List.getElem_cons_succ, List.getElem_cons_zero, Act.put, List.setIfInBounds_toArray, List.set_cons_zero, List.set_cons_succ]
      refine wpAnyH_take (i := 5) (v := ?_) rfl (by kernel_rfl) (by kernel_rfl) (by kernel_rfl) (fun _ _ _ h => h) (Or.inl ⟨by rfl, ?_⟩) (by assumption) ?_
      rotate_left
      · intro w9 hSw; (try dsimp only at hSw); go_simp; try with_reducible rfl
      try simp only [List.getElem_toArray, List.getElem_cons_succ, List.getElem_cons_zero, Act.put, List.setIfInBounds_toArray, List.set_cons_zero, List.set_cons_succ]
      refine wpAnyH_take (i := 6) (v := ?_) rfl (by kernel_rfl) (by kernel_rfl) (by kernel_rfl) (fun _ _ _ h => h) (Or.inl ⟨by rfl, ?_⟩) (by assumption) ?_
      rotate_left
      · intro w9 hSw; (try dsimp only at hSw); go_simp; try with_reducible rfl
      try simp only [List.getElem_toArray, List.getElem_cons_succ, List.getElem_cons_zero, Act.put, List.setIfInBounds_toArray, List.set_cons_zero, List.set_cons_succ]
      refine wpAnyH_take (i := 7) (v := ?_) rfl (by kernel_rfl) (by kernel_rfl) (by kernel_rfl) (fun _ _ _ h => h) (Or.inl ⟨by rfl, ?_⟩) (by assumption) ?_
      rotate_left
      · intro w9 hSw; (try dsimp only at hSw); go_simp; try with_reducible rfl
      try simp only [List.getElem_toArray, List.getElem_cons_succ, List.getElem_cons_zero, Act.put, List.setIfInBounds_toArray, List.set_cons_zero, List.set_cons_succ]
      refine wpAnyH_take (i := 8) (v := ?_) rfl (by kernel_rfl) (by kernel_rfl) (by kernel_rfl) (fun _ _ _ h => h) (Or.inl ⟨by rfl, ?_⟩) (by assumption) ?_
      rotate_left
      · intro w9 hSw; (try dsimp only at hSw); go_simp; try with_reducible rfl
      try simp only [List.getElem_toArray, List.getElem_cons_succ, List.getElem_cons_zero, Act.put, List.setIfInBounds_toArray, List.set_cons_zero, List.set_cons_succ]
      refine wpAnyH_take (i := 9) (v := ?_) rfl (by kernel_rfl) (by kernel_rfl) (by kernel_rfl) (fun _ _ _ h => h) (Or.inl ⟨by rfl, ?_⟩) (by assumption) ?_
      rotate_left
      · intro w9 hSw; (try dsimp only at hSw); go_simp; try with_reducible rfl
      try simp only [List.getElem_toArray, List.getElem_cons_succ, List.getElem_cons_zero, Act.put, List.setIfInBounds_toArray, List.set_cons_zero, List.set_cons_succ]
      refine wpAnyH_take (i := 10) (v := ?_) rfl (by kernel_rfl) (by kernel_rfl) (by kernel_rfl) (fun _ _ _ h => h) (Or.inl ⟨by rfl, ?_⟩) (by assumption) ?_
      rotate_left
      · intro w9 hSw; (try dsimp only at hSw); go_simp; try with_reducible rfl
      try simp only [List.getElem_toArray, List.getElem_cons_succ, List.getElem_cons_zero, Act.put, List.setIfInBounds_toArray, List.set_cons_zero, List.set_cons_succ]
      refine wpAnyH_ready (rs := [11]) (by kernel_rfl) (by simp) ?_
      refine AllReadyH.cons rfl (fun K hK => ?_) AllReadyH.nil
      clear hHeld
      go_simp
      refine (HA.out _ (Below.refl _ _).drew).mono ?_
      rintro e v1 ⟨va, rfl, ho1, hb1⟩
      obtain ⟨p1, c1, rfl, hrd1, _, _⟩ := ho1.slice
      have HC1 := Lib.hid ((Below.refl wr.heap.size wr).drew.trans hb1)
      have HV1 := Lib.hid (HVR.out p1 c1 v1 HC1.out hrd1)
      clear ho1 hb1 hrd1 HVR HA
      refine hK.out _ _ ?_ (fun hHeld => ?_)
      · exact cell_below HC1.out hc9 (by omega)
      clear hK K
      try simp only [List.getElem_toArray, List.getElem_cons_succ, List.getElem_cons_zero, Act.put, List.setIfInBounds_toArray, List.set_cons_zero, List.set_cons_succ]
      refine wpAnyH_ready (rs := [12]) (by kernel_rfl) (by simp) ?_
      refine AllReadyH.cons rfl (fun K hK => ?_) AllReadyH.nil
      clear hHeld
      go_simp
      refine HV1.out.mono ?_
      rintro e v2 ⟨vb, rfl, ho2, hb2⟩
      obtain ⟨p2, c2, rfl, _, _, _⟩ := ho2.slice
      have HC2 := Lib.hid (HC1.out.trans (hb2.mono HC1.out.size))
      have HKN := Lib.hid ho2
      have hsv1 := HC1.out.size
      have hsv2 := hb2.size
      clear ho2 hb2 HV1
      refine hK.out _ _ ?_ (fun hHeld => ?_)
      · exact cell_below HC2.out hc9 (by omega)
      clear hK K
      try simp only [List.getElem_toArray, List.getElem_cons_succ, List.getElem_cons_zero, Act.put, List.setIfInBounds_toArray, List.set_cons_zero, List.set_cons_succ]
      refine wpAnyH_take (i := 13) (v := ?_) rfl (by kernel_rfl) (by kernel_rfl) (by kernel_rfl) (fun _ _ _ h => h) (Or.inl ⟨by rfl, ?_⟩) (by assumption) ?_
      rotate_left
      · intro w9 hSw; (try dsimp only at hSw); go_simp; try with_reducible rfl
      try simp only [List.getElem_toArray, List.getElem_cons_succ, List.getElem_cons_zero, Act.put, List.setIfInBounds_toArray, List.set_cons_zero, List.set_cons_succ]
      refine wpAnyH_done (by kernel_rfl) ?_ _
      refine NoPanic.normal ?_
      clear hHeld
      have HO2 := Lib.hid (ownsRow_block HO.out (fun g e => HC2.out.block g (HO.out.lt g e).2))
      have HBl2 := Lib.hid (HBl.out.trans (HC2.out.mono hsz))
      have hlm : (sel.map (fun j : Nat => (j : Int))).length = sel.length := List.length_map _
      have HKR := Lib.hid (show ints.Reads .i64 v2 p2 (sel.map (fun j : Nat => (j : Int))) from HKN.out.reads)
      have HGK := Lib.hid (fun j (hj : j < sel.length) => show (sel.map (fun j : Nat => (j : Int))).getD j 0 = ((sel.getD j 0 : Nat) : Int) from by
        rw [List.getD_eq_getElem?_getD, List.getElem?_map, List.getElem?_eq_getElem hj, List.getD_eq_getElem?_getD, List.getElem?_eq_getElem hj]; rfl)
      have HLM := Lib.hid hlm
      clear HKN HC1 hlm
      rw [HLM.out]
      generalize sel.map (fun j : Nat => (j : Int)) = ks at *
      have HBD := Lib.hid (fun q h => sum_bd (rows := rows) (sel := sel) (x := x) (fun j hj => HPM.out j (HVMk.out j hj) x hxm) q h)
      go_wp2_with fail
      go_loopw [11, 12] (fun v z wq => ∃ (q n : Nat), q ≤ sel.length ∧ z = .int .i64 q ∧ v = .int .i64 (sumTo rows sel x q) ∧ wq = v2.drewN n) (fun _ z _ => sel.length - (intOf z).toNat)
      case atStart => exact ⟨0, 0, Nat.zero_le _, rfl, rfl, rfl⟩
      case round =>
        obtain ⟨q, n, hq, rfl, rfl, rfl⟩ := hrel
        have HBq := Lib.hid (show Below v2.heap.size v2 (v2.drewN n) from ints.below_drewN (Below.refl _ _) n)
        have HMM := Lib.hid (show ∀ n2, ∃ q, (v2.drewN n).drewN n2 = v2.drewN q from fun n2 => ⟨_, World.drewN_drewN _ _ _⟩)
        generalize v2.drewN n = wq at *
        have hcoq := cell_below (HC2.out.trans (HBq.out.mono HC2.out.size)) HCO.out hbo
        by_cases hqlt : q < sel.length
        · obtain ⟨bk, ok, rfl, hbk, hck⟩ := (HKR.out.below HBq.out).at (k := q) (by rw [HLM.out]; exact hqlt)
          rw [HGK.out q hqlt] at hck
          have hjm := HVMk.out _ (getD_mem sel 0 q hqlt)
          have hwq := HC2.out.trans (HBq.out.mono HC2.out.size)
          obtain ⟨b7, o7, p7, c7, e7, hb7, hc7, _, hr7⟩ := (HRR.out.below hwq).at hjm
          cases e7
          have hl7 := HLN.out _ hjm
          obtain ⟨b6, o6, rfl, hb6, hc6⟩ := hr7.at (k := x) (by omega)
          rw [hl7] at hc7
          have hbd := HBD.out q hq
          have hpm := HPM.out _ hjm x hxm
          have HS := Lib.hid (HSTk.out q)
          have k1 : (0 : Int) ≤ (q : Int) := by omega
          have k2 : (q : Int) < (sel.length : Int) := by omega
          have k3 : (0 : Int) ≤ ((sel.getD q 0 : Nat) : Int) := by omega
          have k4 : ((sel.getD q 0 : Nat) : Int) < (rows.length : Int) := by omega
          clear hr7 hl7 hwq hjm
          generalize (rows.getD (sel.getD q 0) []).getD x 0 = y7 at *
          generalize sel.getD q 0 = jj at *
          generalize sumTo rows sel x q = s at *
          have e7 : IntKind.i64.wrap (s + y7) = s + y7 := IntWalk.i64_in _ (by omega)
          clear hbd hpm
          go_wp2_with fail
          go_quiet (fail)
          go_wp2_with fail
          go_roundw
          case rel => obtain ⟨n3, hn3⟩ := HMM.out _; exact ⟨q + 1, n3, by omega, by go_num, by rw [HS.out], hn3⟩
          case measure => simp [intOf]; omega
        · obtain rfl : q = sel.length := by omega
          have hwq := HC2.out.trans (HBq.out.mono HC2.out.size)
          have hc9q := cell_below hwq HC9.out hb9
          obtain ⟨b6, o6, rfl, hb6, hc6⟩ := (HR9.out.below hwq).at (k := x) (by rw [HL9.out]; exact hxm)
          have HO3 := Lib.hid (ownsRow_block HO2.out (fun g e => HBq.out.block g (HO2.out.lt g e).2))
          have HBl3 := Lib.hid (HBl2.out.trans (HBq.out.mono HBl2.out.size))
          have hs9 : w.heap.size ≤ wq.heap.size := HBl3.out.size
          have HWn := Lib.hid (show ∀ n2, Below w.heap.size w (wq.drewN n2) from fun n2 => ints.below_drewN HBl3.out n2)
          clear HKR HGK HBD HMM HO2 HBl2 hwq
          generalize (rows.getD t []).getD x 0 = y at *
          generalize sumTo rows sel x sel.length = s at *
          rcases hy with rfl | rfl <;> by_cases hs : 0 ≤ s
          · have hw : wrongB rows t order k = false := by rw [HWk.out]; simp [hs]
            have hs2 : decide (0 ≤ s) = true := by simp [hs]
            have HM := Lib.hid (show playTo rows t order (k + 1) = playTo rows t order k from by rw [HPk.out, hw, if_neg (by simp)])
            clear hw HPk HWk
            generalize playTo rows t order k = ms at *
            go_wp2_with fail
            go_quiet (fail)
            go_wp2_with fail
            go_roundw
            case rel => exact ⟨k + 1, by omega, by go_num, by rw [HM.out]; exact HO3.out, HWn.out _⟩
            case measure => simp [intOf]; omega
          · have hw : wrongB rows t order k = true := by rw [HWk.out]; simp [hs]
            have hs1 : s < 0 := by omega
            have hs2 : decide (0 ≤ s) = false := by simp [hs]
            have HM := Lib.hid (show playTo rows t order (k + 1) = playTo rows t order k ++ [(x : Int)] from by rw [HPk.out, hw, if_pos rfl])
            clear hw HPk HWk
            generalize playTo rows t order k = ms at *
            have HOn := Lib.hid (show ∀ n2, (wq.drewN n2).ownsRow w.heap.size 3 1 u8 ms.length (ms.map (Value.int .i64)) from fun _ => HO3.out)
            have HCn := Lib.hid (show ∀ n2, (wq.drewN n2).cell? ⟨bo, oo + k, none⟩ = some (.int .i64 (x : Int)) from fun _ => hcoq)
            have HSn := Lib.hid (show ∀ n2, w.heap.size ≤ (wq.drewN n2).heap.size from fun _ => hs9)
            go_wp2_with fail
            go_quiet (fail)
            have HO4 := Lib.hid (HOn.out nq)
            have HWd := Lib.hid (HWn.out nq)
            have hcd := HCn.out nq
            have hsd := HSn.out nq
            generalize wq.drewN nq = wd at *
            go_wp2_with (at_builtin; refine wpList_append_own _ rfl _ _ 30 rfl w.heap.size 3 i0 (.int .i64 0) 1 8 Try.underlying30 hi hz0 hz1 hz2 rfl (by decide) _ _ _ rfl (HO4.out.alloc _) ⟨wd.heap.size, 0, none⟩ 1 1 [.int .i64 (x : Nat)] rfl rfl (cell_one_new _ _ _) (by simp [Value.oneCell']) (by unfold maxLen; omega) (by omega) (by simp; omega) ?_; intro v' w2 hown' hgrow _)
            obtain ⟨g', cap', hv'⟩ := ownsRow_succ hown'
            subst hv'
            have HO5 := Lib.hid hown'
            have HB5 := Lib.hid ((HWd.out.alloc hsd _).grown hgrow (by simp; omega) (fun g e => (HV.out g e).1))
            clear hown' hgrow
            go_wp2_with fail
            go_roundw
            case rel => exact ⟨k + 1, by omega, by go_num, by rw [HM.out, List.map_append, List.length_append]; exact HO5.out, HB5.out⟩
            case measure => simp [intOf]; omega
          · have hw : wrongB rows t order k = true := by rw [HWk.out]; simp [hs]
            have hs2 : decide (0 ≤ s) = true := by simp [hs]
            have HM := Lib.hid (show playTo rows t order (k + 1) = playTo rows t order k ++ [(x : Int)] from by rw [HPk.out, hw, if_pos rfl])
            clear hw HPk HWk
            generalize playTo rows t order k = ms at *
            have HOn := Lib.hid (show ∀ n2, (wq.drewN n2).ownsRow w.heap.size 3 1 u8 ms.length (ms.map (Value.int .i64)) from fun _ => HO3.out)
            have HCn := Lib.hid (show ∀ n2, (wq.drewN n2).cell? ⟨bo, oo + k, none⟩ = some (.int .i64 (x : Int)) from fun _ => hcoq)
            have HSn := Lib.hid (show ∀ n2, w.heap.size ≤ (wq.drewN n2).heap.size from fun _ => hs9)
            go_wp2_with fail
            go_quiet (fail)
            have HO4 := Lib.hid (HOn.out nq)
            have HWd := Lib.hid (HWn.out nq)
            have hcd := HCn.out nq
            have hsd := HSn.out nq
            generalize wq.drewN nq = wd at *
            go_wp2_with (at_builtin; refine wpList_append_own _ rfl _ _ 30 rfl w.heap.size 3 i0 (.int .i64 0) 1 8 Try.underlying30 hi hz0 hz1 hz2 rfl (by decide) _ _ _ rfl (HO4.out.alloc _) ⟨wd.heap.size, 0, none⟩ 1 1 [.int .i64 (x : Nat)] rfl rfl (cell_one_new _ _ _) (by simp [Value.oneCell']) (by unfold maxLen; omega) (by omega) (by simp; omega) ?_; intro v' w2 hown' hgrow _)
            obtain ⟨g', cap', hv'⟩ := ownsRow_succ hown'
            subst hv'
            have HO5 := Lib.hid hown'
            have HB5 := Lib.hid ((HWd.out.alloc hsd _).grown hgrow (by simp; omega) (fun g e => (HV.out g e).1))
            clear hown' hgrow
            go_wp2_with fail
            go_roundw
            case rel => exact ⟨k + 1, by omega, by go_num, by rw [HM.out, List.map_append, List.length_append]; exact HO5.out, HB5.out⟩
            case measure => simp [intOf]; omega
          · have hw : wrongB rows t order k = false := by rw [HWk.out]; simp [hs]
            have hs1 : s < 0 := by omega
            have hs2 : decide (0 ≤ s) = false := by simp [hs]
            have HM := Lib.hid (show playTo rows t order (k + 1) = playTo rows t order k from by rw [HPk.out, hw, if_neg (by simp)])
            clear hw HPk HWk
            generalize playTo rows t order k = ms at *
            go_wp2_with fail
            go_quiet (fail)
            go_wp2_with fail
            go_roundw
            case rel => exact ⟨k + 1, by omega, by go_num, by rw [HM.out]; exact HO3.out, HWn.out _⟩
            case measure => simp [intOf]; omega
    · obtain rfl : k = order.length := by omega
      have HF := Lib.hid (show RetIB (playTo rows t order order.length) true w (.returned (.tuple #[u8, .bool true])) wr from ⟨u8, rfl, OwnI.of hown, hbel⟩)
      clear hown hbel
      go_wp2_with fail
      go_ret2
      exact HF.out
end Go.Proofs.Ytncidajjeccbkaa.halvs
