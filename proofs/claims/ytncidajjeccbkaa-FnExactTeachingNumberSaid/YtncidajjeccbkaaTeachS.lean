/- The walk of the model's first set that teaches a hypothesis. -/
import Derived.Test.YtncidajjeccbkaaTeachP
import Derived.Test.YtncidajjeccbkaaSetsS
import Derived.Deep.RegionHeld3
import Derived.Deep.DrawnRows
namespace Go.Proofs.Ytncidajjeccbkaa.teachs
open Go.RowKit own pp nums bitn setcmp setord edge setsp cls atw rising teachp
set_option linter.unusedVariables false
set_option linter.unusedSimpArgs false

theorem row_cell {w : World} {b off : Nat} {rows : List (List Int)} (hr : grid.Reads w (some ⟨b, off, none⟩) rows) {i : Nat} (hi : i < rows.length) : ∃ p c, w.cell? ⟨b, off + i, none⟩ = some (.slice p (rows.getD i []).length c) ∧ ints.Reads .i64 w p (rows.getD i []) ∧ b < w.heap.size := by
  obtain ⟨b', off', p, c, e, hb, hc, _, hrd⟩ := hr.at hi
  cases e
  exact ⟨p, c, hc, hrd, hb⟩
/-- A list of a call's own, as headers and lists. -/
theorem own_row {lo hi : Nat} {w : World} {v : Value} {rows : List (List Int)} (h : OwnG lo hi w v rows) {k : Nat} (hk : k < rows.length) : ∃ g cap p c, v = .slice (some ⟨g, 0, none⟩) rows.length cap ∧ g < w.heap.size ∧ w.cell? ⟨g, k, none⟩ = some (.slice p (rows.getD k []).length c) ∧ OwnI lo hi w (.slice p (rows.getD k []).length c) (rows.getD k []) := by
  obtain ⟨cs, h1, h2, hl, ho, hd⟩ := h
  obtain ⟨g, cap, e, hg⟩ := setsn.own_form h1 (by omega)
  subst e
  obtain ⟨p, c, hv, hr, hc, _⟩ := (ho k hk).slice
  have hx := h1.cellAt k (by omega)
  have e2 : cs[k]? = some (cs.getD k undef) := by rw [List.getD_eq_getElem?_getD, List.getElem?_eq_getElem (by omega)]; rfl
  rw [e2, hv] at hx
  have h3 := ho k hk
  rw [hv] at h3
  exact ⟨g, cap, p, c, rfl, hg, hx, h3⟩
set_option maxRecDepth 100000 in
set_option maxHeartbeats 4000000 in
theorem spec_teach (a : Option Addr) (rows : List (List Int)) (c : Nat) (i : Nat) (w : World) (hr : grid.Reads w a rows) (hk : classB rows = true) (hi : i < rows.length) :
    Calls Try.prog 70 #[.slice a rows.length c, .int .i64 i] w (intfns.Made (teachS rows (rows.getD 0 []).length i) w) := by
  have hC := cls_of hk
  obtain ⟨b, off, p0, q0, rfl, hc0, hlen, h8⟩ := classt.row0 hr hk
  have hb : b < w.heap.size := by obtain ⟨_, _, _, _, hb⟩ := row_cell hr hlen; exact hb
  have HC := Lib.hid hC
  have HR := Lib.hid hr
  have HIL := Lib.hid (idx_lt hC hi)
  have h256 := hC.top
  obtain ⟨m, hm⟩ : ∃ m, (rows.getD 0 []).length = m := ⟨_, rfl⟩
  have hr0 : ∀ k, k < rows.length → (rows.getD k []).length = m := fun k hk => by rw [hC.len k hk, hm]
  have HL := Lib.hid hr0
  rw [hm] at hc0 h8 HIL ⊢
  have HS := Lib.hid (fun (wa : World) => setss.spec_sets m wa h8)
  have i3 : (0 : Int) < (rows.length : Int) := by omega
  have hsl := all_length m
  have hp12 := bits8.pow8 h8
  have hsa := sev_all h8
  rw [hsa] at HS
  have HMEM := Lib.hid (fun k (hk : k < (allS m).length) => set_inside (getD_mem (allS m) [] k hk))
  have HBF := Lib.hid (fun k (h : k < tIdx rows m i) (hk : k < (allS m).length) => idx_before h hk)
  have HAT := Lib.hid (show teachB rows i ((allS m).getD (tIdx rows m i) []) = true from idx_at HIL.out)
  have HT := Lib.hid (show teachS rows m i = (allS m).getD (tIdx rows m i) [] from rfl)
  rw [HT.out]
  generalize tIdx rows m i = ix at *
  have hll : (allS m).length ≤ 256 := by rw [hsl]; omega
  generalize allS m = L at *
  clear hr hC hm hk hr0 hsa hsl hp12
  go_enter Try.func70, Try.ntmps70
  go_wp2_with fail
  refine (HS.out _).mono ?_
  rintro e w1 ⟨v, rfl, hos, hb1⟩
  have hix := HIL.out
  obtain ⟨gs, cap, _, _, rfl, hgs, _, _⟩ := own_row hos hix
  have HOS := Lib.hid hos
  have HB1 := Lib.hid hb1
  have s1 := hb1.size
  have hcz := cell_below hb1 hc0 hb
  clear hos hb1 HS hc0
  go_wp2_with fail
  go_loopw [6] (fun z wr => ∃ k : Nat, k ≤ ix ∧ z = .int .i64 k ∧ Below w1.heap.size w1 wr) (fun z _ => ix + 1 - (intOf z).toNat)
  case atStart => exact ⟨0, Nat.zero_le _, rfl, Below.refl _ _⟩
  case round =>
    obtain ⟨k, hki, rfl, hbel⟩ := hrel
    have hkl : k < L.length := by omega
    have hosr := HOS.out.below hbel
    obtain ⟨gs', cap', sp, sc, e1, hgs', hcs, hrow⟩ := own_row hosr hkl
    cases e1
    have hrr := HR.out.below (HB1.out.trans (hbel.mono s1))
    obtain ⟨p, q, hci, hrd, hbr⟩ := row_cell hrr hi
    have hlr := HL.out i hi
    obtain ⟨hin, hsm⟩ := HMEM.out k hkl
    have hal := at_length (rows.getD i []) (L.getD k [])
    have hsz := hbel.size
    have HA := Lib.hid (fun (wa : World) (hba : Below wr.heap.size wr wa) => spec_at p (rows.getD i []) q sp (L.getD k []) sc wa (hrd.below hba) (hrow.reads.below hba) (by omega) (by omega) (by rw [hlr]; exact hin))
    have HV := Lib.hid (fun (p1 : Option Addr) (c1 : Nat) (wa : World) (hba : Below wr.heap.size wr wa) (h1 : ints.Reads .i64 wa p1 (atL (rows.getD i []) (L.getD k []))) =>
      spec_version (some ⟨b, off, none⟩) rows c sp (L.getD k []) sc p1 (atL (rows.getD i []) (L.getD k [])) c1 wa (hrr.below hba) (hrow.reads.below hba) h1 h256 (fun j hj => by rw [HL.out j hj]; exact ⟨h8, hin⟩) (by omega) (by rw [hal]; omega))
    have HBr := Lib.hid hbel
    have HRW := Lib.hid hrow
    have HVO := Lib.hid (ver_one hi (L.getD k []))
    have HVE := Lib.hid (show pwh.placesTo (hasB rows (L.getD k []) (atL (rows.getD i []) (L.getD k []))) rows.length = verL rows i (L.getD k []) from rfl)
    rw [HVE.out] at HV
    have i1 : (0 : Int) ≤ (k : Int) := by omega
    have i2 : (k : Int) < (L.length : Int) := by omega
    have i5 : (0 : Int) ≤ (i : Int) := by omega
    have i6 : (i : Int) < (rows.length : Int) := by omega
    have hg9 : gs < wr.heap.size := by omega
    by_cases hlt : k < ix
    · have ht := HBF.out k hlt hkl
      rw [ht, Bool.not_false] at HVO
      have g0 : decide ((1 : Int) < ((verL rows i (L.getD k [])).length : Int)) = true := HVO.out
      clear hal hlr hbel hosr hrow hrr hrd hin HVE ht hcz hgs hgs' HVO
      generalize verL rows i (L.getD k []) = vl at *
      generalize atL (rows.getD i []) (L.getD k []) = al at *
      generalize L.getD k [] = s at *
      generalize rows.getD i [] = r at *
      go_wp2_with fail
      refine wp_region_noPanic ?_
      refine wp_region_held_drew (S := fun w' => w'.cell? ⟨gs, k, none⟩ = some (.slice sp s.length sc) ∧ w'.cell? ⟨b, off + i, none⟩ = some (.slice p r.length q)) (by kernel_rfl) ?_ (fun hHeld => ?_)
      · exact ⟨hcs, hci⟩
      refine wpAnyH_take (i := 0) (v := ?_) rfl (by kernel_rfl) (by kernel_rfl) (by kernel_rfl) (fun _ _ _ h => h) (Or.inl ⟨by rfl, ?_⟩) (by assumption) ?_
      rotate_left
      · intro w9 hSw; (try dsimp only at hSw); go_simp; try with_reducible rfl
      try simp only [List.getElem_toArray, List.getElem_cons_succ, List.getElem_cons_zero, Act.put, List.setIfInBounds_toArray, List.set_cons_zero, List.set_cons_succ]
      refine wpAnyH_take (i := 1) (v := ?_) rfl (by kernel_rfl) (by kernel_rfl) (by kernel_rfl) (fun _ _ _ h => h) (Or.inl ⟨by rfl, ?_⟩) (by assumption) ?_
      rotate_left
      · intro w9 hSw; (try dsimp only at hSw); go_simp; try with_reducible rfl
      try simp only [List.getElem_toArray, List.getElem_cons_succ, List.getElem_cons_zero, Act.put, List.setIfInBounds_toArray, List.set_cons_zero, List.set_cons_succ]
      refine wpAnyH_take (i := 2) (v := ?_) rfl (by kernel_rfl) (by kernel_rfl) (by kernel_rfl) (fun _ _ _ h => h) (Or.inl ⟨by rfl, ?_⟩) (by assumption) ?_
      rotate_left
      · intro w9 hSw; (try dsimp only at hSw); go_simp; try with_reducible rfl
      try simp only [List.getElem_toArray, List.getElem_cons_succ, List.getElem_cons_zero, Act.put, List.setIfInBounds_toArray, List.set_cons_zero, List.set_cons_succ]
      refine wpAnyH_take (i := 3) (v := ?_) rfl (by kernel_rfl) (by kernel_rfl) (by kernel_rfl) (fun _ _ _ h => h) (Or.inl ⟨by rfl, ?_⟩) (by assumption) ?_
      rotate_left
      · intro w9 hSw; (try dsimp only at hSw); go_simp; try with_reducible rfl
      try simp only [List.getElem_toArray, List.getElem_cons_succ, List.getElem_cons_zero, Act.put, List.setIfInBounds_toArray, List.set_cons_zero, List.set_cons_succ]
      refine wpAnyH_take (i := 4) (v := ?_) rfl (by kernel_rfl) (by kernel_rfl) (by kernel_rfl) (fun _ _ _ h => h) (Or.inl ⟨by rfl, ?_⟩) (by assumption) ?_
      rotate_left
      · intro w9 hSw; (try dsimp only at hSw); go_simp; try with_reducible rfl
      try simp only [List.getElem_toArray, List.getElem_cons_succ, List.getElem_cons_zero, Act.put, List.setIfInBounds_toArray, List.set_cons_zero, List.set_cons_succ]
      refine wpAnyH_take (i := 5) (v := ?_) rfl (by kernel_rfl) (by kernel_rfl) (by kernel_rfl) (fun _ _ _ h => h) (Or.inl ⟨by rfl, ?_⟩) (by assumption) ?_
      rotate_left
      · intro w9 hSw; (try dsimp only at hSw); go_simp; try with_reducible rfl
      try simp only [List.getElem_toArray, List.getElem_cons_succ, List.getElem_cons_zero, Act.put, List.setIfInBounds_toArray, List.set_cons_zero, List.set_cons_succ]
      refine wpAnyH_take (i := 6) (v := ?_) rfl (by kernel_rfl) (by kernel_rfl) (by kernel_rfl) (fun _ _ _ h => h) (Or.inl ⟨by rfl, ?_⟩) (by assumption) ?_
      rotate_left
      · intro w9 hSw; (try dsimp only at hSw); go_simp; try with_reducible rfl
      try simp only [List.getElem_toArray, List.getElem_cons_succ, List.getElem_cons_zero, Act.put, List.setIfInBounds_toArray, List.set_cons_zero, List.set_cons_succ]
      refine wpAnyH_take (i := 7) (v := ?_) rfl (by kernel_rfl) (by kernel_rfl) (by kernel_rfl) (fun _ _ _ h => h) (Or.inl ⟨by rfl, ?_⟩) (by assumption) ?_
      rotate_left
      · intro w9 hSw; (try dsimp only at hSw); go_simp; try with_reducible rfl
      try simp only [List.getElem_toArray, List.getElem_cons_succ, List.getElem_cons_zero, Act.put, List.setIfInBounds_toArray, List.set_cons_zero, List.set_cons_succ]
      refine wpAnyH_take (i := 8) (v := ?_) rfl (by kernel_rfl) (by kernel_rfl) (by kernel_rfl) (fun _ _ _ h => h) (Or.inl ⟨by rfl, ?_⟩) (by assumption) ?_
      rotate_left
      · intro w9 hSw; (try dsimp only at hSw); go_simp; try with_reducible rfl
      try simp only [List.getElem_toArray, List.getElem_cons_succ, List.getElem_cons_zero, Act.put, List.setIfInBounds_toArray, List.set_cons_zero, List.set_cons_succ]
      refine wpAnyH_take (i := 9) (v := ?_) rfl (by kernel_rfl) (by kernel_rfl) (by kernel_rfl) (fun _ _ _ h => h) (Or.inl ⟨by rfl, ?_⟩) (by assumption) ?_
      rotate_left
      · intro w9 hSw; (try dsimp only at hSw); go_simp; try with_reducible rfl
      try simp only [List.getElem_toArray, List.getElem_cons_succ, List.getElem_cons_zero, Act.put, List.setIfInBounds_toArray, List.set_cons_zero, List.set_cons_succ]
      refine wpAnyH_take (i := 10) (v := ?_) rfl (by kernel_rfl) (by kernel_rfl) (by kernel_rfl) (fun _ _ _ h => h) (Or.inl ⟨by rfl, ?_⟩) (by assumption) ?_
      rotate_left
      · intro w9 hSw; (try dsimp only at hSw); go_simp; try with_reducible rfl
      try simp only [List.getElem_toArray, List.getElem_cons_succ, List.getElem_cons_zero, Act.put, List.setIfInBounds_toArray, List.set_cons_zero, List.set_cons_succ]
      refine wpAnyH_take (i := 11) (v := ?_) rfl (by kernel_rfl) (by kernel_rfl) (by kernel_rfl) (fun _ _ _ h => h) (Or.inl ⟨by rfl, ?_⟩) (by assumption) ?_
      rotate_left
      · intro w9 hSw; (try dsimp only at hSw); go_simp; try with_reducible rfl
      try simp only [List.getElem_toArray, List.getElem_cons_succ, List.getElem_cons_zero, Act.put, List.setIfInBounds_toArray, List.set_cons_zero, List.set_cons_succ]
      refine wpAnyH_take (i := 12) (v := ?_) rfl (by kernel_rfl) (by kernel_rfl) (by kernel_rfl) (fun _ _ _ h => h) (Or.inl ⟨by rfl, ?_⟩) (by assumption) ?_
      rotate_left
      · intro w9 hSw; (try dsimp only at hSw); go_simp; try with_reducible rfl
      try simp only [List.getElem_toArray, List.getElem_cons_succ, List.getElem_cons_zero, Act.put, List.setIfInBounds_toArray, List.set_cons_zero, List.set_cons_succ]
      refine wpAnyH_ready (rs := [13]) (by kernel_rfl) (by simp) ?_
      refine AllReadyH.cons rfl (fun K hK => ?_) AllReadyH.nil
      clear hHeld
      go_simp
      refine (HA.out _ (Below.refl _ _).drew).mono ?_
      rintro e v1 ⟨va, rfl, ho1, hb1⟩
      obtain ⟨p1, c1, rfl, hrd1, _, _⟩ := ho1.slice
      have HC1 := Lib.hid ((Below.refl wr.heap.size wr).drew.trans hb1)
      have HV1 := Lib.hid (HV.out p1 c1 v1 HC1.out hrd1)
      clear ho1 hb1 hrd1 HV HA
      refine hK.out _ _ ?_ (fun hHeld => ?_)
      · exact ⟨cell_below HC1.out hcs (by omega), cell_below HC1.out hci (by omega)⟩
      clear hK K
      try simp only [List.getElem_toArray, List.getElem_cons_succ, List.getElem_cons_zero, Act.put, List.setIfInBounds_toArray, List.set_cons_zero, List.set_cons_succ]
      refine wpAnyH_ready (rs := [14]) (by kernel_rfl) (by simp) ?_
      refine AllReadyH.cons rfl (fun K hK => ?_) AllReadyH.nil
      clear hHeld
      go_simp
      refine HV1.out.mono ?_
      rintro e v2 ⟨vb, rfl, ho2, hb2⟩
      obtain ⟨p2, c2, rfl, _, _, _⟩ := ho2.slice
      have HC2 := Lib.hid (HC1.out.trans (hb2.mono HC1.out.size))
      clear ho2 hb2 HV1
      refine hK.out _ _ ?_ (fun hHeld => ?_)
      · exact ⟨cell_below HC2.out hcs (by omega), cell_below HC2.out hci (by omega)⟩
      clear hK K
      try simp only [List.getElem_toArray, List.getElem_cons_succ, List.getElem_cons_zero, Act.put, List.setIfInBounds_toArray, List.set_cons_zero, List.set_cons_succ]
      refine wpAnyH_take (i := 15) (v := ?_) rfl (by kernel_rfl) (by kernel_rfl) (by kernel_rfl) (fun _ _ _ h => h) (Or.inl ⟨by rfl, ?_⟩) (by assumption) ?_
      rotate_left
      · intro w9 hSw; (try dsimp only at hSw); go_simp; try with_reducible rfl
      try simp only [List.getElem_toArray, List.getElem_cons_succ, List.getElem_cons_zero, Act.put, List.setIfInBounds_toArray, List.set_cons_zero, List.set_cons_succ]
      refine wpAnyH_take (i := 16) (v := ?_) rfl (by kernel_rfl) (by kernel_rfl) (by kernel_rfl) (fun _ _ _ h => h) (Or.inl ⟨by rfl, ?_⟩) (by assumption) ?_
      rotate_left
      · intro w9 hSw; (try dsimp only at hSw); go_simp; try with_reducible rfl
      try simp only [List.getElem_toArray, List.getElem_cons_succ, List.getElem_cons_zero, Act.put, List.setIfInBounds_toArray, List.set_cons_zero, List.set_cons_succ]
      refine wpAnyH_done (by kernel_rfl) ?_ _
      refine NoPanic.normal ?_
      clear hHeld
      go_wp2_with fail
      go_roundw
      case rel => exact ⟨k + 1, by omega, by go_num, HBr.out.trans (HC2.out.mono hsz)⟩
      case measure => simp [intOf]; omega
    · obtain rfl : k = ix := by omega
      rw [HAT.out, Bool.not_true] at HVO
      have g0 : decide ((1 : Int) < ((verL rows i (L.getD k [])).length : Int)) = false := HVO.out
      clear hal hlr hbel hosr hrow hrr hrd hin HVE hcz hgs hgs' HVO
      generalize verL rows i (L.getD k []) = vl at *
      generalize atL (rows.getD i []) (L.getD k []) = al at *
      generalize L.getD k [] = s at *
      generalize rows.getD i [] = r at *
      go_wp2_with fail
      refine wp_region_noPanic ?_
      refine wp_region_held_drew (S := fun w' => w'.cell? ⟨gs, k, none⟩ = some (.slice sp s.length sc) ∧ w'.cell? ⟨b, off + i, none⟩ = some (.slice p r.length q)) (by kernel_rfl) ?_ (fun hHeld => ?_)
      · exact ⟨hcs, hci⟩
      refine wpAnyH_take (i := 0) (v := ?_) rfl (by kernel_rfl) (by kernel_rfl) (by kernel_rfl) (fun _ _ _ h => h) (Or.inl ⟨by rfl, ?_⟩) (by assumption) ?_
      rotate_left
      · intro w9 hSw; (try dsimp only at hSw); go_simp; try with_reducible rfl
      try simp only [List.getElem_toArray, List.getElem_cons_succ, List.getElem_cons_zero, Act.put, List.setIfInBounds_toArray, List.set_cons_zero, List.set_cons_succ]
      refine wpAnyH_take (i := 1) (v := ?_) rfl (by kernel_rfl) (by kernel_rfl) (by kernel_rfl) (fun _ _ _ h => h) (Or.inl ⟨by rfl, ?_⟩) (by assumption) ?_
      rotate_left
      · intro w9 hSw; (try dsimp only at hSw); go_simp; try with_reducible rfl
      try simp only [List.getElem_toArray, List.getElem_cons_succ, List.getElem_cons_zero, Act.put, List.setIfInBounds_toArray, List.set_cons_zero, List.set_cons_succ]
      refine wpAnyH_take (i := 2) (v := ?_) rfl (by kernel_rfl) (by kernel_rfl) (by kernel_rfl) (fun _ _ _ h => h) (Or.inl ⟨by rfl, ?_⟩) (by assumption) ?_
      rotate_left
      · intro w9 hSw; (try dsimp only at hSw); go_simp; try with_reducible rfl
      try simp only [List.getElem_toArray, List.getElem_cons_succ, List.getElem_cons_zero, Act.put, List.setIfInBounds_toArray, List.set_cons_zero, List.set_cons_succ]
      refine wpAnyH_take (i := 3) (v := ?_) rfl (by kernel_rfl) (by kernel_rfl) (by kernel_rfl) (fun _ _ _ h => h) (Or.inl ⟨by rfl, ?_⟩) (by assumption) ?_
      rotate_left
      · intro w9 hSw; (try dsimp only at hSw); go_simp; try with_reducible rfl
      try simp only [List.getElem_toArray, List.getElem_cons_succ, List.getElem_cons_zero, Act.put, List.setIfInBounds_toArray, List.set_cons_zero, List.set_cons_succ]
      refine wpAnyH_take (i := 4) (v := ?_) rfl (by kernel_rfl) (by kernel_rfl) (by kernel_rfl) (fun _ _ _ h => h) (Or.inl ⟨by rfl, ?_⟩) (by assumption) ?_
      rotate_left
      · intro w9 hSw; (try dsimp only at hSw); go_simp; try with_reducible rfl
      try simp only [List.getElem_toArray, List.getElem_cons_succ, List.getElem_cons_zero, Act.put, List.setIfInBounds_toArray, List.set_cons_zero, List.set_cons_succ]
      refine wpAnyH_take (i := 5) (v := ?_) rfl (by kernel_rfl) (by kernel_rfl) (by kernel_rfl) (fun _ _ _ h => h) (Or.inl ⟨by rfl, ?_⟩) (by assumption) ?_
      rotate_left
      · intro w9 hSw; (try dsimp only at hSw); go_simp; try with_reducible rfl
      try simp only [List.getElem_toArray, List.getElem_cons_succ, List.getElem_cons_zero, Act.put, List.setIfInBounds_toArray, List.set_cons_zero, List.set_cons_succ]
      refine wpAnyH_take (i := 6) (v := ?_) rfl (by kernel_rfl) (by kernel_rfl) (by kernel_rfl) (fun _ _ _ h => h) (Or.inl ⟨by rfl, ?_⟩) (by assumption) ?_
      rotate_left
      · intro w9 hSw; (try dsimp only at hSw); go_simp; try with_reducible rfl
      try simp only [List.getElem_toArray, List.getElem_cons_succ, List.getElem_cons_zero, Act.put, List.setIfInBounds_toArray, List.set_cons_zero, List.set_cons_succ]
      refine wpAnyH_take (i := 7) (v := ?_) rfl (by kernel_rfl) (by kernel_rfl) (by kernel_rfl) (fun _ _ _ h => h) (Or.inl ⟨by rfl, ?_⟩) (by assumption) ?_
      rotate_left
      · intro w9 hSw; (try dsimp only at hSw); go_simp; try with_reducible rfl
      try simp only [List.getElem_toArray, List.getElem_cons_succ, List.getElem_cons_zero, Act.put, List.setIfInBounds_toArray, List.set_cons_zero, List.set_cons_succ]
      refine wpAnyH_take (i := 8) (v := ?_) rfl (by kernel_rfl) (by kernel_rfl) (by kernel_rfl) (fun _ _ _ h => h) (Or.inl ⟨by rfl, ?_⟩) (by assumption) ?_
      rotate_left
      · intro w9 hSw; (try dsimp only at hSw); go_simp; try with_reducible rfl
      try simp only [List.getElem_toArray, List.getElem_cons_succ, List.getElem_cons_zero, Act.put, List.setIfInBounds_toArray, List.set_cons_zero, List.set_cons_succ]
      refine wpAnyH_take (i := 9) (v := ?_) rfl (by kernel_rfl) (by kernel_rfl) (by kernel_rfl) (fun _ _ _ h => h) (Or.inl ⟨by rfl, ?_⟩) (by assumption) ?_
      rotate_left
      · intro w9 hSw; (try dsimp only at hSw); go_simp; try with_reducible rfl
      try simp only [List.getElem_toArray, List.getElem_cons_succ, List.getElem_cons_zero, Act.put, List.setIfInBounds_toArray, List.set_cons_zero, List.set_cons_succ]
      refine wpAnyH_take (i := 10) (v := ?_) rfl (by kernel_rfl) (by kernel_rfl) (by kernel_rfl) (fun _ _ _ h => h) (Or.inl ⟨by rfl, ?_⟩) (by assumption) ?_
      rotate_left
      · intro w9 hSw; (try dsimp only at hSw); go_simp; try with_reducible rfl
      try simp only [List.getElem_toArray, List.getElem_cons_succ, List.getElem_cons_zero, Act.put, List.setIfInBounds_toArray, List.set_cons_zero, List.set_cons_succ]
      refine wpAnyH_take (i := 11) (v := ?_) rfl (by kernel_rfl) (by kernel_rfl) (by kernel_rfl) (fun _ _ _ h => h) (Or.inl ⟨by rfl, ?_⟩) (by assumption) ?_
      rotate_left
      · intro w9 hSw; (try dsimp only at hSw); go_simp; try with_reducible rfl
      try simp only [List.getElem_toArray, List.getElem_cons_succ, List.getElem_cons_zero, Act.put, List.setIfInBounds_toArray, List.set_cons_zero, List.set_cons_succ]
      refine wpAnyH_take (i := 12) (v := ?_) rfl (by kernel_rfl) (by kernel_rfl) (by kernel_rfl) (fun _ _ _ h => h) (Or.inl ⟨by rfl, ?_⟩) (by assumption) ?_
      rotate_left
      · intro w9 hSw; (try dsimp only at hSw); go_simp; try with_reducible rfl
      try simp only [List.getElem_toArray, List.getElem_cons_succ, List.getElem_cons_zero, Act.put, List.setIfInBounds_toArray, List.set_cons_zero, List.set_cons_succ]
      refine wpAnyH_ready (rs := [13]) (by kernel_rfl) (by simp) ?_
      refine AllReadyH.cons rfl (fun K hK => ?_) AllReadyH.nil
      clear hHeld
      go_simp
      refine (HA.out _ (Below.refl _ _).drew).mono ?_
      rintro e v1 ⟨va, rfl, ho1, hb1⟩
      obtain ⟨p1, c1, rfl, hrd1, _, _⟩ := ho1.slice
      have HC1 := Lib.hid ((Below.refl wr.heap.size wr).drew.trans hb1)
      have HV1 := Lib.hid (HV.out p1 c1 v1 HC1.out hrd1)
      clear ho1 hb1 hrd1 HV HA
      refine hK.out _ _ ?_ (fun hHeld => ?_)
      · exact ⟨cell_below HC1.out hcs (by omega), cell_below HC1.out hci (by omega)⟩
      clear hK K
      try simp only [List.getElem_toArray, List.getElem_cons_succ, List.getElem_cons_zero, Act.put, List.setIfInBounds_toArray, List.set_cons_zero, List.set_cons_succ]
      refine wpAnyH_ready (rs := [14]) (by kernel_rfl) (by simp) ?_
      refine AllReadyH.cons rfl (fun K hK => ?_) AllReadyH.nil
      clear hHeld
      go_simp
      refine HV1.out.mono ?_
      rintro e v2 ⟨vb, rfl, ho2, hb2⟩
      obtain ⟨p2, c2, rfl, _, _, _⟩ := ho2.slice
      have HC2 := Lib.hid (HC1.out.trans (hb2.mono HC1.out.size))
      clear ho2 hb2 HV1
      refine hK.out _ _ ?_ (fun hHeld => ?_)
      · exact ⟨cell_below HC2.out hcs (by omega), cell_below HC2.out hci (by omega)⟩
      clear hK K
      try simp only [List.getElem_toArray, List.getElem_cons_succ, List.getElem_cons_zero, Act.put, List.setIfInBounds_toArray, List.set_cons_zero, List.set_cons_succ]
      refine wpAnyH_take (i := 15) (v := ?_) rfl (by kernel_rfl) (by kernel_rfl) (by kernel_rfl) (fun _ _ _ h => h) (Or.inl ⟨by rfl, ?_⟩) (by assumption) ?_
      rotate_left
      · intro w9 hSw; (try dsimp only at hSw); go_simp; try with_reducible rfl
      try simp only [List.getElem_toArray, List.getElem_cons_succ, List.getElem_cons_zero, Act.put, List.setIfInBounds_toArray, List.set_cons_zero, List.set_cons_succ]
      refine wpAnyH_take (i := 16) (v := ?_) rfl (by kernel_rfl) (by kernel_rfl) (by kernel_rfl) (fun _ _ _ h => h) (Or.inl ⟨by rfl, ?_⟩) (by assumption) ?_
      rotate_left
      · intro w9 hSw; (try dsimp only at hSw); go_simp; try with_reducible rfl
      try simp only [List.getElem_toArray, List.getElem_cons_succ, List.getElem_cons_zero, Act.put, List.setIfInBounds_toArray, List.set_cons_zero, List.set_cons_succ]
      refine wpAnyH_done (by kernel_rfl) ?_ _
      refine NoPanic.normal ?_
      clear hHeld
      have hcs2 := cell_below HC2.out hcs hg9
      have HF := Lib.hid (show intfns.Made s w (.returned (.slice sp s.length sc)) v2 from ⟨_, rfl, ((HRW.out.below HC2.out).mono (Nat.le_refl _) (by have := HC2.out.size; omega)), HB1.out.trans ((HBr.out.trans (HC2.out.mono hsz)).mono s1)⟩)
      go_wp2_with fail
      go_ret
      exact HF.out
end Go.Proofs.Ytncidajjeccbkaa.teachs
