/- The walks of ShattersSet: the model's and the program's. -/
import Derived.Test.YtncidajjeccbkaaTraceS
import Derived.Test.YtncidajjeccbkaaHad
import Derived.Deep.RegionHeld3
namespace Go.Proofs.Ytncidajjeccbkaa.shatw
open Go.RowKit own pp nums bitn setcmp setord cls classt atw rising tracep traces hadw
set_option linter.unusedVariables false
set_option linter.unusedSimpArgs false

set_option maxRecDepth 100000 in
set_option maxHeartbeats 4000000 in
theorem spec_shatters (a : Option Addr) (rows : List (List Int)) (c : Nat) (a1 : Option Addr) (set : List Int) (c1 : Nat) (w : World) (hr : grid.Reads w a rows) (hq : ints.Reads .i64 w a1 set) {m : Nat} (hC : Cls rows m) (hin : Inside m set) (h8 : set.length ≤ 8) :
    Calls Try.prog 63 #[.slice a rows.length c, .slice a1 set.length c1] w ((fun e w' => e = .returned (.bool (shatB rows set)) ∧ Below w.heap.size w w')) := by
  have HT := Lib.hid (fun (wa : World) (hb : Below w.heap.size w wa) => spec_traces a rows c a1 set c1 wa (hr.below hb) (hq.below hb) hC hin h8)
  have hs := shat_iff hC hin h8
  have hsh : (2 : Int) ^ set.length = ((2 ^ set.length : Nat) : Int) := by simp
  have hp12 := bits8.pow8 h8
  generalize trTo rows set rows.length = T at *
  generalize shatB rows set = sb at *
  generalize 2 ^ set.length = N at *
  have g0 : ((T.length : Int) == (N : Int)) = sb := by
    rw [← hs]
    by_cases e : T.length = N
    · rw [decide_eq_true e, beq_iff_eq]; omega
    · rw [decide_eq_false e, beq_eq_false_iff_ne]; omega
  have hmin : min set.length 64 = set.length := by omega
  have ew : IntKind.i64.wrap (N : Int) = (N : Int) := IntWalk.i64_in _ (by omega)
  clear hr hq hC hin hs hp12
  go_enter Try.func63, Try.ntmps63
  go_wp2_with fail
  refine wp_region_noPanic ?_
  refine wp_region_held_drew (S := fun w' => True) (by kernel_rfl) ?_ (fun hHeld => ?_)
  · exact trivial
  refine wpAnyH_take (i := 0) (v := ?_) rfl (by kernel_rfl) (by kernel_rfl) (by kernel_rfl) (fun _ _ _ h => h) (Or.inl ⟨by rfl, ?_⟩) (by assumption) ?_
  rotate_left
  · intro w9 hSw; (try dsimp only at hSw); go_simp; try with_reducible rfl
  try simp only [List.getElem_toArray, List.getElem_cons_succ, List.getElem_cons_zero, Act.put, List.setIfInBounds_toArray, List.set_cons_zero, List.set_cons_succ]
  refine wpAnyH_take (i := 1) (v := ?_) rfl (by kernel_rfl) (by kernel_rfl) (by kernel_rfl) (fun _ _ _ h => h) (Or.inl ⟨by rfl, ?_⟩) (by assumption) ?_
  rotate_left
  · intro w9 hSw; (try dsimp only at hSw); go_simp; try with_reducible rfl
  try simp only [List.getElem_toArray, List.getElem_cons_succ, List.getElem_cons_zero, Act.put, List.setIfInBounds_toArray, List.set_cons_zero, List.set_cons_succ]
  refine wpAnyH_take (i := 4) (v := ?_) rfl (by kernel_rfl) (by kernel_rfl) (by kernel_rfl) (fun _ _ _ h => h) (Or.inl ⟨by rfl, ?_⟩) (by assumption) ?_
  rotate_left
  · intro w9 hSw; (try dsimp only at hSw); go_simp; try with_reducible rfl
  try simp only [List.getElem_toArray, List.getElem_cons_succ, List.getElem_cons_zero, Act.put, List.setIfInBounds_toArray, List.set_cons_zero, List.set_cons_succ]
  refine wpAnyH_take (i := 5) (v := ?_) rfl (by kernel_rfl) (by kernel_rfl) (by kernel_rfl) (fun _ _ _ h => h) (Or.inl ⟨by rfl, ?_⟩) (by assumption) ?_
  rotate_left
  · intro w9 hSw; (try dsimp only at hSw); go_simp; try with_reducible rfl
  try simp only [List.getElem_toArray, List.getElem_cons_succ, List.getElem_cons_zero, Act.put, List.setIfInBounds_toArray, List.set_cons_zero, List.set_cons_succ]
  refine wpAnyH_take (i := 6) (v := ?_) rfl (by kernel_rfl) (by kernel_rfl) (by kernel_rfl) (fun _ _ _ h => h) (Or.inl ⟨by rfl, ?_⟩) (by assumption) ?_
  rotate_left
  · intro w9 hSw; (try dsimp only at hSw); go_simp; try with_reducible rfl
  try simp only [List.getElem_toArray, List.getElem_cons_succ, List.getElem_cons_zero, Act.put, List.setIfInBounds_toArray, List.set_cons_zero, List.set_cons_succ]
  refine wpAnyH_ready (rs := [2]) (by kernel_rfl) (by simp) ?_
  refine AllReadyH.cons rfl (fun K hK => ?_) AllReadyH.nil
  clear hHeld
  go_simp
  refine (HT.out _ (Below.refl _ _).drew).mono ?_
  rintro e v1 ⟨va, rfl, ho1, hb1⟩
  obtain ⟨p1, c1', rfl, _, _, _⟩ := ho1.slice
  have HB1 := Lib.hid ((Below.refl w.heap.size w).drew.trans hb1)
  clear ho1 hb1
  refine hK.out _ _ ?_ (fun hHeld => ?_)
  · exact trivial
  clear hK K
  try simp only [List.getElem_toArray, List.getElem_cons_succ, List.getElem_cons_zero, Act.put, List.setIfInBounds_toArray, List.set_cons_zero, List.set_cons_succ]
  refine wpAnyH_take (i := 3) (v := ?_) rfl (by kernel_rfl) (by kernel_rfl) (by kernel_rfl) (fun _ _ _ h => h) (Or.inl ⟨by rfl, ?_⟩) (by assumption) ?_
  rotate_left
  · intro w9 hSw; (try dsimp only at hSw); go_simp; try with_reducible rfl
  try simp only [List.getElem_toArray, List.getElem_cons_succ, List.getElem_cons_zero, Act.put, List.setIfInBounds_toArray, List.set_cons_zero, List.set_cons_succ]
  refine wpAnyH_take (i := 7) (v := ?_) rfl (by kernel_rfl) (by kernel_rfl) (by kernel_rfl) (fun _ _ _ h => h) (Or.inl ⟨by rfl, ?_⟩) (by assumption) ?_
  rotate_left
  · intro w9 hSw; (try dsimp only at hSw); go_simp; try with_reducible rfl
  try simp only [List.getElem_toArray, List.getElem_cons_succ, List.getElem_cons_zero, Act.put, List.setIfInBounds_toArray, List.set_cons_zero, List.set_cons_succ]
  refine wpAnyH_take (i := 8) (v := ?_) rfl (by kernel_rfl) (by kernel_rfl) (by kernel_rfl) (fun _ _ _ h => h) (Or.inl ⟨by rfl, ?_⟩) (by assumption) ?_
  rotate_left
  · intro w9 hSw; (try dsimp only at hSw); go_simp; try with_reducible rfl
  try simp only [List.getElem_toArray, List.getElem_cons_succ, List.getElem_cons_zero, Act.put, List.setIfInBounds_toArray, List.set_cons_zero, List.set_cons_succ]
  refine wpAnyH_done (by kernel_rfl) ?_ _
  refine NoPanic.normal ?_
  clear hHeld
  go_wp2_with fail
  go_ret
  exact ⟨by first | rfl | (simp [g0]), HB1.out⟩
set_option maxRecDepth 100000 in
set_option maxHeartbeats 4000000 in
theorem spec_no (a : Option Addr) (rows : List (List Int)) (c : Nat) (a1 : Option Addr) (set : List Int) (c1 : Nat) (w : World) (hr : grid.Reads w a rows) (hq : ints.Reads .i64 w a1 set) (hn : rows.length ≤ 1048576) (hm : ∀ r ∈ rows, r.length ≤ 1048576) (hz : set.length ≤ 1048576) (hk : setB rows set = false) :
    Calls Try.prog 29 #[.slice a rows.length c, .slice a1 set.length c1] w (RetBB false false w) := by
  have HS := Lib.hid (fun (wa : World) (hb : Below w.heap.size w wa) => classt.spec_set a rows c a1 set c1 wa (hr.below hb) (hq.below hb) hn hm hz false (Lib.hid hk))
  clear hr hq hm hk
  go_enter Try.func29, Try.ntmps29
  go_wp2_with fail
  refine (HS.out _ (Below.refl _ _)).mono ?_
  rintro e w' ⟨rfl, m, rfl⟩
  go_wp2_with fail
  go_ret2
  exact ⟨rfl, ints.below_drewN (Below.refl _ _) m⟩
set_option maxRecDepth 100000 in
set_option maxHeartbeats 4000000 in
theorem spec_yes (a : Option Addr) (rows : List (List Int)) (c : Nat) (a1 : Option Addr) (set : List Int) (c1 : Nat) (w : World) (hr : grid.Reads w a rows) (hq : ints.Reads .i64 w a1 set) (hn : rows.length ≤ 1048576) (hm : ∀ r ∈ rows, r.length ≤ 1048576) (hz : set.length ≤ 1048576) (hk : setB rows set = true) :
    Calls Try.prog 29 #[.slice a rows.length c, .slice a1 set.length c1] w (RetBB (shatB rows set) true w) := by
  have HS := Lib.hid (fun (wa : World) (hb : Below w.heap.size w wa) => classt.spec_set a rows c a1 set c1 wa (hr.below hb) (hq.below hb) hn hm hz true (Lib.hid hk))
  obtain ⟨hcl, hri⟩ := (setB_iff rows set).1 hk
  have hC := cls_of hcl
  have hs8 : set.length ≤ 8 := Nat.le_trans (rises_len hri) hC.m8
  have hin := rises_inside hri
  have HT := Lib.hid (fun (wa : World) (hb : Below w.heap.size w wa) => spec_shatters a rows c a1 set c1 wa (hr.below hb) (hq.below hb) hC hin hs8)
  generalize shatB rows set = sb at *
  clear hr hq hm hk hcl hri hC hin
  go_enter Try.func29, Try.ntmps29
  go_wp2_with fail
  refine (HS.out _ (Below.refl _ _)).mono ?_
  rintro e w' ⟨rfl, m, rfl⟩
  go_wp2_with fail
  refine (HT.out _ (ints.below_drewN (Below.refl _ _) m)).mono ?_
  rintro e w4 ⟨rfl, hb4⟩
  have HF := Lib.hid ((ints.below_drewN (Below.refl w.heap.size w) m).trans hb4)
  clear hb4
  go_wp2_with fail
  go_ret2
  exact ⟨rfl, HF.out⟩
set_option maxRecDepth 100000 in
set_option maxHeartbeats 4000000 in
theorem impl_no (a : Option Addr) (rows : List (List Int)) (c : Nat) (a1 : Option Addr) (set : List Int) (c1 : Nat) (w : World) (hr : grid.Reads w a rows) (hq : ints.Reads .i64 w a1 set) (hn : rows.length ≤ 1048576) (hm : ∀ r ∈ rows, r.length ≤ 1048576) (hz : set.length ≤ 1048576) (hk : setB rows set = false) :
    Calls Try.prog 30 #[.slice a rows.length c, .slice a1 set.length c1] w (RetBB false false w) := by
  have HS := Lib.hid (fun (wa : World) (hb : Below w.heap.size w wa) => classt.impl_set a rows c a1 set c1 wa (hr.below hb) (hq.below hb) hn hm hz false (Lib.hid hk))
  clear hr hq hm hk
  go_enter Try.func30, Try.ntmps30
  go_wp2_with fail
  refine (HS.out _ (Below.refl _ _)).mono ?_
  rintro e w' ⟨rfl, m, rfl⟩
  go_wp2_with fail
  go_ret2
  exact ⟨rfl, ints.below_drewN (Below.refl _ _) m⟩
set_option maxRecDepth 100000 in
set_option maxHeartbeats 4000000 in
theorem impl_yes (a : Option Addr) (rows : List (List Int)) (c : Nat) (a1 : Option Addr) (set : List Int) (c1 : Nat) (w : World) (hr : grid.Reads w a rows) (hq : ints.Reads .i64 w a1 set) (hn : rows.length ≤ 1048576) (hm : ∀ r ∈ rows, r.length ≤ 1048576) (hz : set.length ≤ 1048576) (hk : setB rows set = true) :
    Calls Try.prog 30 #[.slice a rows.length c, .slice a1 set.length c1] w (RetBB (shatB rows set) true w) := by
  have HS := Lib.hid (fun (wa : World) (hb : Below w.heap.size w wa) => classt.impl_set a rows c a1 set c1 wa (hr.below hb) (hq.below hb) hn hm hz true (Lib.hid hk))
  obtain ⟨hcl, hri⟩ := (setB_iff rows set).1 hk
  have hC := cls_of hcl
  have hs8 : set.length ≤ 8 := Nat.le_trans (rises_len hri) hC.m8
  have hin := rises_inside hri
  have HT := Lib.hid (fun (wa : World) (hb : Below w.heap.size w wa) => hadw.impl_shatters a rows c a1 set c1 wa (hr.below hb) (hq.below hb) hC hin hs8)
  generalize shatB rows set = sb at *
  clear hr hq hm hk hcl hri hC hin
  go_enter Try.func30, Try.ntmps30
  go_wp2_with fail
  refine (HS.out _ (Below.refl _ _)).mono ?_
  rintro e w' ⟨rfl, m, rfl⟩
  go_wp2_with fail
  refine (HT.out _ (ints.below_drewN (Below.refl _ _) m)).mono ?_
  rintro e w4 ⟨rfl, hb4⟩
  have HF := Lib.hid ((ints.below_drewN (Below.refl w.heap.size w) m).trans hb4)
  clear hb4
  go_wp2_with fail
  go_ret2
  exact ⟨rfl, HF.out⟩
end Go.Proofs.Ytncidajjeccbkaa.shatw
