/- The walks of the program's first set that teaches a hypothesis. -/
import Derived.Test.YtncidajjeccbkaaTeachS
import Derived.Test.YtncidajjeccbkaaIdxF
import Derived.BigQuiet
namespace Go.Proofs.Ytncidajjeccbkaa.teachi
open Go.RowKit own pp nums bitn setcmp setord edge setsp cls atw rising teachp teachs idxf
set_option linter.unusedVariables false
set_option linter.unusedSimpArgs false

theorem teach_split {rows : List (List Int)} {i : Nat} (hi : i < rows.length) (s al : List Int) (hal : atL (rows.getD i []) s = al) : (!((List.range i).any (hasB rows s al)) && !((List.range (rows.length - (i + 1))).any (fun k => hasB rows s al (i + 1 + k)))) = teachB rows i s := by
  subst hal
  rw [Bool.eq_iff_iff]
  unfold teachB
  rw [Bool.and_eq_true, Bool.not_eq_true', Bool.not_eq_true', List.any_eq_false, List.any_eq_false, List.all_eq_true]
  constructor
  · rintro ⟨h1, h2⟩ j hj
    have hj := List.mem_range.1 hj
    rcases Nat.lt_trichotomy j i with h | h | h
    · have := h1 j (List.mem_range.2 h)
      simp only [Bool.not_eq_true] at this
      rw [this]; simp
    · rw [h]; simp
    · have := h2 (j - (i + 1)) (List.mem_range.2 (by omega))
      rw [show i + 1 + (j - (i + 1)) = j by omega] at this
      simp only [Bool.not_eq_true] at this
      rw [this]; simp
  · intro h
    constructor
    · intro j hj
      have hj := List.mem_range.1 hj
      have := h j (List.mem_range.2 (by omega))
      rw [show (j == i) = false from beq_eq_false_iff_ne.2 (by omega), Bool.false_or, Bool.not_eq_true'] at this
      rw [this]; simp
    · intro j hj
      have hj := List.mem_range.1 hj
      have := h (i + 1 + j) (List.mem_range.2 (by omega))
      rw [show (i + 1 + j == i) = false from beq_eq_false_iff_ne.2 (by omega), Bool.false_or, Bool.not_eq_true'] at this
      rw [this]; simp
set_option maxRecDepth 100000 in
set_option maxHeartbeats 4000000 in
theorem alike (hv : Value) (B BX : Nat) (p : Option Addr) (r : List Int) (q : Nat) (sp : Option Addr) (s : List Int) (sc : Nat) (lp : Option Addr) (al : List Int) (lc : Nat) (w : World) (he : hv = .slice p r.length q) (x0 : w.cell? ⟨B, 0, none⟩ = some (.slice sp s.length sc)) (x1 : w.cell? ⟨BX, 0, none⟩ = some (.slice lp al.length lc))
    (hr : ints.Reads .i64 w p r) (hq : ints.Reads .i64 w sp s) (hl : ints.Reads .i64 w lp al) (h8 : r.length ≤ 8) (hin : Inside r.length s) (hs8 : s.length ≤ 8) (hne : al.length = s.length) (ok : Bool) (hok : decide (atL r s = al) = ok) :
    Calls Try.prog 108 #[hv, .pointer (some ⟨B, 0, none⟩), .pointer (some ⟨BX, 0, none⟩)] w (fun e w' => e = .returned (.bool ok) ∧ Below w.heap.size w w') := by
  subst he
  have HC := Lib.hid (impl_has p r q sp s sc lp al lc w hr hq hl (by omega) (by omega) hin hne ok (Lib.hid hok))
  clear hr hq hl hin hne hok
  go_enter Try.func108, Try.ntmps108
  go_wp2_with fail
  refine HC.out.mono ?_
  rintro e w' ⟨rfl, m, rfl⟩
  go_wp2_with fail
  go_ret
  exact ⟨rfl, ints.below_drewN (Below.refl _ _) _⟩
set_option maxRecDepth 100000 in
set_option maxHeartbeats 4000000 in
theorem impl_teaches (a : Option Addr) (rows : List (List Int)) (c : Nat) (i : Nat) (sp : Option Addr) (s : List Int) (sc : Nat) (w : World) (hr : grid.Reads w a rows) (hcp : rows.length ≤ c) (hk : classB rows = true) (hi : i < rows.length) (hq : ints.Reads .i64 w sp s) (hin : Inside (rows.getD 0 []).length s) (hs8 : s.length ≤ 8) :
    Calls Try.prog 99 #[.slice a rows.length c, .int .i64 i, .slice sp s.length sc] w ((fun e w' => e = .returned (.bool (teachB rows i s)) ∧ Below w.heap.size w w')) := by
  obtain ⟨i0, hii, hz0, hz1, hz2⟩ := info_parts mk.infoInt
  have hC := cls_of hk
  obtain ⟨b, off, p0, q0, rfl, hc0', hlen, h8⟩ := classt.row0 hr hk
  obtain ⟨p, q, hci0, hrd, hbs0⟩ := row_cell hr hi
  have h256 := hC.top
  have HIN := Lib.hid hin
  have HLN := Lib.hid (show ∀ k, k < rows.length → (rows.getD k []).length = (rows.getD 0 []).length from hC.len)
  have HR := Lib.hid hr
  have HQ := Lib.hid hq
  have HRD := Lib.hid hrd
  have HAL := Lib.hid (at_length (rows.getD i []) s)
  have HAG := Lib.hid (fun k (h : k < s.length) => at_getD (rows.getD i []) s k h)
  have HSP := Lib.hid (teach_split hi s _ rfl)
  have HRL := Lib.hid (show (rows.getD i []).length = (rows.getD 0 []).length from hC.len i hi)
  generalize atL (rows.getD i []) s = al at *
  generalize rows.getD i [] = r at *
  have HCI := Lib.hid hci0
  clear hr hq hin hk hC hc0' hrd hci0
  go_enter Try.func99, Try.ntmps99
  obtain ⟨b1, hw1⟩ : ∃ b1 : World, b1 = w.alloc (.cells #[.slice sp s.length sc] 30) := ⟨_, rfl⟩
  have z1 : b1.heap.size = w.heap.size + 1 := by rw [hw1]; simp
  have x0_0 := (by rw [hw1]; exact cell_new _ _ _ rfl rfl : b1.cell? ⟨w.heap.size, 0, none⟩ = some (.slice sp s.length sc))
  have HB0 := Lib.hid (show Below w.heap.size w b1 by rw [hw1]; exact (Below.refl w.heap.size w).alloc (Nat.le_refl _) _)
  have s1 : w.heap.size + 1 ≤ b1.heap.size := by omega
  clear z1
  go_wp2_with (rw [← hw1]; refine wpList_make_full _ rfl _ _ 30 rfl b1.heap.size 3 i0 (.int .i64 0) 1 Try.underlying30 hii hz0 hz1 .i64 .i64 _ _ s.length rfl rfl rfl rfl (by rw [hz2]; omega) (by unfold maxLen; omega) (Nat.le_refl _) ?_; intro w2 hown1 hgrow1; refine Hid.out ?_)
  have z9 : b1.heap.size = w.heap.size + 1 := by rw [hw1]; simp
  clear hw1
  refine Lib.hid ?_
  have hb2 : Below b1.heap.size b1 w2 := (Below.refl _ _).grown hgrow1 (Nat.le_refl _) (by simp)
  rw [show (Value.int .i64 0).cells = #[Value.int .i64 0] from rfl, Nat.mul_one, toList_madeCells_one, z9] at hown1
  have hown1 : w2.ownsRow (w.heap.size + 1) 3 1 (.slice (some ⟨w.heap.size + 1, 0, none⟩) s.length s.length) s.length (intfns.filled al 0) := by rw [intfns.filled_zero, HAL.out]; exact hown1
  have s2 : w.heap.size + 1 < w2.heap.size := (hown1.lt _ rfl).2
  have HB2 := Lib.hid (HB0.out.trans (hb2.mono (by omega)))
  have y0 := cell_below hb2 x0_0 (by omega)
  have xf : (w2.alloc (.cells #[.slice none 0 0] 30)).frozen? ⟨w2.heap.size, 0, none⟩ = false := fro_new _ _ _ rfl
  have xc : (w2.alloc (.cells #[.slice none 0 0] 30)).cell? ⟨w2.heap.size, 0, none⟩ = some (.slice none 0 0) := cell_new _ _ _ rfl rfl
  clear hgrow1 hb2 x0_0 z9
  obtain ⟨w3, hw3⟩ : ∃ w3 : World, w3 = w2.alloc (.cells #[.slice (some ⟨w.heap.size + 1, 0, none⟩) s.length s.length] 30) := ⟨_, rfl⟩
  have u0 : w3.cell? ⟨w.heap.size, 0, none⟩ = some (.slice sp s.length sc) := by rw [hw3]; exact cell_old _ y0
  have u1 : w3.cell? ⟨w2.heap.size, 0, none⟩ = some (.slice (some ⟨w.heap.size + 1, 0, none⟩) s.length s.length) := by rw [hw3]; exact cell_new _ _ _ rfl rfl
  have hown3 : w3.ownsRow (w.heap.size + 1) 3 1 (.slice (some ⟨w.heap.size + 1, 0, none⟩) s.length s.length) s.length (intfns.filled al 0) := by rw [hw3]; exact hown1.alloc _
  have HB3 := Lib.hid (show Below w.heap.size w w3 by rw [hw3]; exact HB2.out.trans ((below_alloc w2 _).mono (by omega)))
  have s3 : w2.heap.size < w3.heap.size := by rw [hw3]; simp
  have yy : (w2.alloc (.cells #[.slice (some ⟨w.heap.size + 1, 0, none⟩) s.length s.length] 30)).cell? ⟨w.heap.size, 0, none⟩ = some (.slice sp s.length sc) := cell_old _ y0
  clear hown1 y0
  go_wp2_with fail
  rw [← hw3]
  clear hw3 xf xc yy
  go_loopw [16] (fun z wr => ∃ k : Nat, k ≤ s.length ∧ z = .int .i64 k ∧ wr.ownsRow (w.heap.size + 1) 3 1 (.slice (some ⟨w.heap.size + 1, 0, none⟩) s.length s.length) s.length (intfns.filled al k) ∧ wr.cell? ⟨w.heap.size, 0, none⟩ = some (.slice sp s.length sc) ∧ wr.cell? ⟨w2.heap.size, 0, none⟩ = some (.slice (some ⟨w.heap.size + 1, 0, none⟩) s.length s.length) ∧ Below w.heap.size w wr ∧ w3.heap.size ≤ wr.heap.size) (fun z _ => s.length - (intOf z).toNat)
  case atStart => exact ⟨0, Nat.zero_le _, rfl, hown3, u0, u1, HB3.out, Nat.le_refl _⟩
  case round =>
    obtain ⟨k, hks, rfl, hown, hc0, hbx, hbel, hsz⟩ := hrel
    clear hown3 u0 u1
    have HBl := Lib.hid hbel
    have hci := cell_below hbel HCI.out hbs0
    have hbs : b < wr.heap.size := by omega
    by_cases hlt : k < s.length
    · obtain ⟨bs, so, rfl, hbss, hcs⟩ := (HQ.out.below hbel).at hlt
      obtain ⟨h0, h1⟩ := HIN.out k hlt
      obtain ⟨x, hx⟩ : ∃ x : Nat, s.getD k 0 = (x : Int) := ⟨(s.getD k 0).toNat, by omega⟩
      have hxr : x < r.length := by have := HRL.out; omega
      obtain ⟨br, ro, rfl, hbrs0, hcx0⟩ := HRD.out.at hxr
      have hcx := cell_below hbel hcx0 hbrs0
      have hbrs : br < wr.heap.size := by omega
      have hbxs : w2.heap.size < wr.heap.size := by omega
      have hc0s : w.heap.size < wr.heap.size := by omega
      have hls : (w.heap.size + 1) < wr.heap.size := by omega
      have hax : al.getD k 0 = r.getD x 0 := by rw [HAG.out k hlt, hx, Int.toNat_natCast]
      rw [hx] at hcs
      have hal := HAL.out
      have hcell : wr.cell? ⟨w.heap.size + 1, k, none⟩ = some (.int .i64 0) := by rw [hown.cellAt k (by omega), intfns.filled_at al k (by omega)]
      have hfro := hown.frozenAt k
      have HFS := Lib.hid (intfns.filled_succ al k (by omega))
      rw [hax] at HFS
      have i1 : (0 : Int) ≤ (k : Int) := by omega
      have i2 : (k : Int) < (s.length : Int) := by omega
      have i3 : (0 : Int) ≤ (x : Int) := by omega
      have i4 : (x : Int) < (r.length : Int) := by omega
      have i5 : (0 : Int) ≤ (i : Int) := by omega
      have i6 : (i : Int) < (rows.length : Int) := by omega
      clear hbel h0 h1 hx hax hcx0 hal
      generalize r.getD x 0 = xv at *
      go_wp2_with fail
      refine wp_region_noPanic ?_
      refine wp_region_held_drew (S := fun w' => w'.cell? ⟨w2.heap.size, 0, none⟩ = some (.slice (some ⟨w.heap.size + 1, 0, none⟩) s.length s.length) ∧ w'.cell? ⟨b, off + i, none⟩ = some (.slice (some ⟨br, ro, none⟩) r.length q) ∧ w'.cell? ⟨br, ro + x, none⟩ = some (.int .i64 xv)) (by kernel_rfl) ?_ (fun hHeld => ?_)
      · exact ⟨hbx, hci, hcx⟩
      have hb9 : Below wr.heap.size wr wr.drew := (Below.refl _ _).drew
      have k1 := cell_below hb9 hbx hbxs
      have k2 := cell_below hb9 hci hbs
      have k3 := cell_below hb9 hcx hbrs
      have k0 := cell_below hb9 hc0 hc0s
      have hcell1 := cell_below hb9 hcell hls
      have hfro1 := fro_below hb9 hfro hls
      have hown1 := ownsRow_block hown (fun g e => hb9.block g (hown.lt g e).2)
      have HBv := Lib.hid (HBl.out.trans (hb9.mono HBl.out.size))
      have hvs := hb9.size
      clear hb9 hcell hfro hown hbx hci hcx hc0
      generalize wr.drew = v1 at *
      refine wpAnyH_take (i := 0) (v := ?_) rfl (by kernel_rfl) (by kernel_rfl) (by kernel_rfl) (fun _ _ _ h => h) (Or.inl ⟨by rfl, ?_⟩) (by assumption) ?_
      rotate_left
      · intro w9 hSw; (try dsimp only at hSw); go_simp; try with_reducible rfl
      try simp only [List.getElem_toArray, List.getElem_cons_succ, List.getElem_cons_zero, Act.put, List.setIfInBounds_toArray, List.set_cons_zero, List.set_cons_succ]
      refine wpAnyH_take (i := 1) (v := ?_) rfl (by kernel_rfl) (by kernel_rfl) (by kernel_rfl) (fun _ _ _ h => h) (Or.inl ⟨by rfl, ?_⟩) (by assumption) ?_
      rotate_left
      · intro w9 hSw; (try dsimp only at hSw); go_simp; try with_reducible rfl
      try simp only [List.getElem_toArray, List.getElem_cons_succ, List.getElem_cons_zero, Act.put, List.setIfInBounds_toArray, List.set_cons_zero, List.set_cons_succ]
      refine wpAnyH_take (i := 2) (v := ?_) rfl (by kernel_rfl) (by kernel_rfl) (by kernel_rfl) (fun _ _ _ h => h) (Or.inl ⟨by rfl, ?_⟩) (by assumption) ?_
      rotate_left
      · intro w9 hSw; (try dsimp only at hSw); go_simp; try with_reducible rfl
      try simp only [List.getElem_toArray, List.getElem_cons_succ, List.getElem_cons_zero, Act.put, List.setIfInBounds_toArray, List.set_cons_zero, List.set_cons_succ]
      refine wpAnyH_take (i := 3) (v := ?_) rfl (by kernel_rfl) (by kernel_rfl) (by kernel_rfl) (fun _ _ _ h => h) (Or.inl ⟨by rfl, ?_⟩) (by assumption) ?_
      rotate_left
      · intro w9 hSw; (try dsimp only at hSw); go_simp; try with_reducible rfl
      try simp only [List.getElem_toArray, List.getElem_cons_succ, List.getElem_cons_zero, Act.put, List.setIfInBounds_toArray, List.set_cons_zero, List.set_cons_succ]
      refine wpAnyH_take (i := 4) (v := ?_) rfl (by kernel_rfl) (by kernel_rfl) (by kernel_rfl) (fun _ _ _ h => h) (Or.inl ⟨by rfl, ?_⟩) (by assumption) ?_
      rotate_left
      · intro w9 hSw; (try dsimp only at hSw); go_simp; try with_reducible rfl
      try simp only [List.getElem_toArray, List.getElem_cons_succ, List.getElem_cons_zero, Act.put, List.setIfInBounds_toArray, List.set_cons_zero, List.set_cons_succ]
      refine wpAnyH_take (i := 5) (v := ?_) rfl (by kernel_rfl) (by kernel_rfl) (by kernel_rfl) (fun _ _ _ h => h) (Or.inl ⟨by rfl, ?_⟩) (by assumption) ?_
      rotate_left
      · intro w9 hSw; (try dsimp only at hSw); go_simp; try with_reducible rfl
      try simp only [List.getElem_toArray, List.getElem_cons_succ, List.getElem_cons_zero, Act.put, List.setIfInBounds_toArray, List.set_cons_zero, List.set_cons_succ]
      refine wpAnyH_take (i := 6) (v := ?_) rfl (by kernel_rfl) (by kernel_rfl) (by kernel_rfl) (fun _ _ _ h => h) (Or.inl ⟨by rfl, ?_⟩) (by assumption) ?_
      rotate_left
      · intro w9 hSw; (try dsimp only at hSw); go_simp; try with_reducible rfl
      try simp only [List.getElem_toArray, List.getElem_cons_succ, List.getElem_cons_zero, Act.put, List.setIfInBounds_toArray, List.set_cons_zero, List.set_cons_succ]
      refine wpAnyH_take (i := 7) (v := ?_) rfl (by kernel_rfl) (by kernel_rfl) (by kernel_rfl) (fun _ _ _ h => h) (Or.inl ⟨by rfl, ?_⟩) (by assumption) ?_
      rotate_left
      · intro w9 hSw; (try dsimp only at hSw); go_simp; try with_reducible rfl
      try simp only [List.getElem_toArray, List.getElem_cons_succ, List.getElem_cons_zero, Act.put, List.setIfInBounds_toArray, List.set_cons_zero, List.set_cons_succ]
      refine wpAnyH_take (i := 8) (v := ?_) rfl (by kernel_rfl) (by kernel_rfl) (by kernel_rfl) (fun _ _ _ h => h) (Or.inl ⟨by rfl, ?_⟩) (by assumption) ?_
      rotate_left
      · intro w9 hSw; (try dsimp only at hSw); go_simp; try with_reducible rfl
      try simp only [List.getElem_toArray, List.getElem_cons_succ, List.getElem_cons_zero, Act.put, List.setIfInBounds_toArray, List.set_cons_zero, List.set_cons_succ]
      refine wpAnyH_take (i := 9) (v := ?_) rfl (by kernel_rfl) (by kernel_rfl) (by kernel_rfl) (fun _ _ _ h => h) (Or.inl ⟨by rfl, ?_⟩) (by assumption) ?_
      rotate_left
      · intro w9 hSw; (try dsimp only at hSw); go_simp; try with_reducible rfl
      try simp only [List.getElem_toArray, List.getElem_cons_succ, List.getElem_cons_zero, Act.put, List.setIfInBounds_toArray, List.set_cons_zero, List.set_cons_succ]
      refine wpAnyH_ready (rs := [10]) (by kernel_rfl) (by simp) ?_
      refine AllReadyH.cons rfl (fun K hK => ?_) AllReadyH.nil
      clear hHeld
      go_simp
      refine hK.out _ _ ?_ (fun hHeld => ?_)
      · exact ⟨(World.cell?_setCell_other _ _ _ _ (by simp <;> omega)).trans k1, (World.cell?_setCell_other _ _ _ _ (by simp <;> omega)).trans k2, (World.cell?_setCell_other _ _ _ _ (by simp <;> omega)).trans k3⟩
      clear hK K
      try simp only [List.getElem_toArray, List.getElem_cons_succ, List.getElem_cons_zero, Act.put, List.setIfInBounds_toArray, List.set_cons_zero, List.set_cons_succ]
      refine wpAnyH_done (by kernel_rfl) ?_ _
      refine NoPanic.normal ?_
      clear hHeld
      have hst := (hown1.stored k (.int .i64 xv)).1
      rw [HFS.out] at hst
      have n0 := (World.cell?_setCell_other v1 ⟨w.heap.size + 1, k, none⟩ ⟨w.heap.size, 0, none⟩ (.int .i64 xv) (by simp <;> omega)).trans k0
      have n1 := (World.cell?_setCell_other v1 ⟨w.heap.size + 1, k, none⟩ ⟨w2.heap.size, 0, none⟩ (.int .i64 xv) (by simp <;> omega)).trans k1
      have HST := Lib.hid hst
      have HBn := Lib.hid (show Below w.heap.size w (v1.setCell ⟨w.heap.size + 1, k, none⟩ (.int .i64 xv)) from HBv.out.setCell (by simp <;> omega) _)
      have hsn : w3.heap.size ≤ (v1.setCell ⟨w.heap.size + 1, k, none⟩ (.int .i64 xv)).heap.size := by rw [size_set]; omega
      clear hst hown1 hcell1 hfro1 k0 k1 k2 k3
      go_wp2_with fail
      go_roundw
      case rel => exact ⟨k + 1, by omega, by go_num, HST.out, n0, n1, HBn.out, hsn⟩
      case measure => simp [intOf]; omega
    · obtain rfl : k = s.length := by omega
      have hal := HAL.out
      have HOW := Lib.hid (show OwnI (w.heap.size + 1) wr.heap.size wr (.slice (some ⟨w.heap.size + 1, 0, none⟩) al.length s.length) al from OwnI.of (by rw [← intfns.filled_all, hal]; exact hown))
      obtain ⟨hd, hhd⟩ : ∃ hd : Nat → Value, ∀ j, j < rows.length → w.cell? ⟨b, off + j, none⟩ = some (hd j) := ⟨fun j => (w.cell? ⟨b, off + j, none⟩).getD undef, fun j hj => by
        obtain ⟨p9, c9, h9, _, _⟩ := row_cell HR.out hj
        show w.cell? ⟨b, off + j, none⟩ = some ((w.cell? ⟨b, off + j, none⟩).getD undef)
        rw [h9]; rfl⟩
      have HCLS := Lib.hid (fun (j : Nat) (hj : j < rows.length) (W : World) (hbW : Below wr.heap.size wr W) => by
        obtain ⟨p9, c9, h9, hr9, _⟩ := row_cell HR.out hj
        have he : hd j = .slice p9 (rows.getD j []).length c9 := Option.some.inj ((hhd j hj).symm.trans h9)
        have hwW := HBl.out.trans (hbW.mono (by omega))
        exact alike (hd j) w.heap.size w2.heap.size p9 (rows.getD j []) c9 sp s sc (some ⟨w.heap.size + 1, 0, none⟩) al s.length W he (cell_below hbW hc0 (by omega)) (by rw [HAL.out]; exact cell_below hbW hbx (by omega)) (hr9.below hwW) (HQ.out.below hwW) (HOW.out.below hbW).reads (by rw [HLN.out j hj]; exact h8) (by rw [HLN.out j hj]; exact HIN.out) hs8 HAL.out (hasB rows s al j) rfl)
      have HH1 := Lib.hid (has2 108 (enters_of Try.func108 (by kernel_rfl) rfl) (.pointer (some ⟨w.heap.size, 0, none⟩)) (.pointer (some ⟨w2.heap.size, 0, none⟩)) (some ⟨b, off, none⟩) i c hd (hasB rows s al) wr (by omega)
        (Lib.hid (fun j hj => ⟨b, off, rfl, by omega, cell_below HBl.out (hhd j (by omega)) hbs0⟩)) (Lib.hid (fun j W hj hbW => HCLS.out j (by omega) W hbW)))
      have HH2 := Lib.hid (fun (a9 : Option Addr) (c9 : Nat) (W9 : World) (hb9 : Below wr.heap.size wr W9) (ha9 : rows.length - (i + 1) = 0 ∨ a9 = some ⟨b, off + (i + 1), none⟩) => has2 108 (enters_of Try.func108 (by kernel_rfl) rfl) (.pointer (some ⟨w.heap.size, 0, none⟩)) (.pointer (some ⟨w2.heap.size, 0, none⟩)) a9 (rows.length - (i + 1)) c9 (fun j => hd (i + 1 + j)) (fun j => hasB rows s al (i + 1 + j)) W9 (by omega)
        (Lib.hid (fun j hj => by
          rcases ha9 with h | h
          · omega
          · refine ⟨b, off + (i + 1), h, by have := hb9.size; omega, ?_⟩
            have := cell_below (HBl.out.trans (hb9.mono (by omega))) (hhd (i + 1 + j) (by omega)) hbs0
            rw [show off + (i + 1) + j = off + (i + 1 + j) by omega]
            exact this)) (Lib.hid (fun j W hj hbW => HCLS.out (i + 1 + j) (by omega) W (hb9.trans (hbW.mono hb9.size)))))
      have hi1 : (i : Int) ≤ (c : Int) := by omega
      have hi2 : (0 : Int) ≤ (i : Int) := by omega
      have hi3 : i ≤ c := by omega
      have e1 : IntKind.i64.wrap ((i : Int) + 1) = (i : Int) + 1 := IntWalk.i64_in _ (by omega)
      clear hown hbel hal HCLS
      generalize (List.range i).any (hasB rows s al) = r1 at *
      generalize (List.range (rows.length - (i + 1))).any (fun j => hasB rows s al (i + 1 + j)) = r2 at *
      go_wp2_with fail
      refine HH1.out.mono ?_
      rintro e w5 ⟨rfl, hb5⟩
      have HB5 := Lib.hid hb5
      clear hb5 HH1
      cases r1
      · have hi4 : (i : Int) + 1 ≤ (rows.length : Int) := by omega
        have hi5 : (i : Int) + 1 ≤ (c : Int) := by omega
        have hi6 : (0 : Int) ≤ (i : Int) + 1 := by omega
        have hsz5 := HB5.out.size
        by_cases hcc : c = i + 1
        · have HH3 := Lib.hid (HH2.out (some ⟨b, off, none⟩) 0 w5 HB5.out (.inl (by omega)))
          clear HH2
          go_wp2_with fail
          refine HH3.out.mono ?_
          rintro e w6 ⟨rfl, hb6⟩
          have HF := Lib.hid (HBl.out.trans ((HB5.out.trans (hb6.mono hsz5)).mono (by omega)))
          clear hb6 HH3
          go_wp2_with fail
          go_ret
          exact ⟨by rw [← HSP.out]; rfl, HF.out⟩
        · have hcd : ¬ (i + 1 = c) := fun e => hcc e.symm
          have HH3 := Lib.hid (HH2.out (some ⟨b, off + (i + 1), none⟩) (c - (i + 1)) w5 HB5.out (.inr rfl))
          clear HH2
          go_wp2_with fail
          refine HH3.out.mono ?_
          rintro e w6 ⟨rfl, hb6⟩
          have HF := Lib.hid (HBl.out.trans ((HB5.out.trans (hb6.mono hsz5)).mono (by omega)))
          clear hb6 HH3
          go_wp2_with fail
          go_ret
          exact ⟨by rw [← HSP.out]; rfl, HF.out⟩
      · have HF := Lib.hid (HBl.out.trans (HB5.out.mono (by omega)))
        clear HH2
        go_wp2_with fail
        go_ret
        exact ⟨by rw [← HSP.out]; rfl, HF.out⟩
end Go.Proofs.Ytncidajjeccbkaa.teachi
