/- The draws of SplitString, LessString and JoinStrings: some texts, no longer than is told. -/
import Derived.Test.YtocjedheimhfoaaDrawAny
import Derived.Test.YtocjedheimhfoaaStrs
import Derived.Maps.AppendAt
namespace Go.Proofs.Ytocjedheimhfoaa.drawsplit
open Go.RowKit ints draw drawany
set_option linter.unusedVariables false

theorem infoByte : (Try.prog.info? 5).map (fun i => (i.zero, i.size, i.bytes)) = some (some (.int .u8 0), 1, 1) := by kernel_rfl
theorem infoStr : (Try.prog.info? 9).map (fun i => (i.zero, i.size, i.bytes)) = some (some (.string ByteArray.empty), 1, 16) := by kernel_rfl

/-- What the call made and filled: an address, the length, room for it, and the texts. -/
theorem own_read {w : World} {base : Nat} {v : Value} {ss : List ByteArray} (h : w.ownsRow base 9 1 v ss.length (ss.map Value.string)) : ∃ (p : Option Addr) (cap : Nat), v = .slice p ss.length cap ∧ ss.length ≤ cap ∧ strs.Reads w p ss := by
  rcases id h.2 with ⟨rfl, h0⟩ | ⟨g, cap, cur, rfl, _, _, hn, _⟩
  · exact ⟨none, 0, by rw [h0], by omega, .inl (List.length_eq_zero_iff.1 h0)⟩
  · exact ⟨some ⟨g, 0, none⟩, cap, rfl, hn, strs.reads_of_owns h⟩

theorem less_any (a : Option Addr) (zs : List Int) (c : Nat) (w : World) (h : drawany.Code w a zs) :
    Calls Try.prog 14 #[.slice a zs.length c] w fun e w' => ∃ s t : ByteArray, e = .returned (.tuple #[.string s, .string t]) ∧ s.size ≤ 10 ∧ t.size ≤ 10 ∧ Below w.heap.size w w' := by
  have hs := src_new c h
  go_enter Try.func14, Try.ntmps14
  go_wp2_with fail
  refine (any1_left _ a zs c 0 _ hs (by omega)).mono ?_
  rintro e w1 ⟨s, rfl, hz1, hL1⟩
  go_wp2_with fail
  refine (any1_left _ a zs c 2 _ hL1.1 (by omega)).mono ?_
  rintro e w2 ⟨t, rfl, hz2, hL2⟩
  have hb2 : Below w.heap.size w w2 := below_new _ (hL1.trans hL2)
  go_wp2_with fail
  go_ret2
  exact ⟨s, t, rfl, hz1, hz2, hb2⟩

theorem split_any (a : Option Addr) (zs : List Int) (c : Nat) (w : World) (h : drawany.Code w a zs) :
    Calls Try.prog 9 #[.slice a zs.length c] w fun e w' => ∃ s t : ByteArray, e = .returned (.tuple #[.string s, .string t]) ∧ s.size ≤ 10 ∧ t.size ≤ 2 ∧ Below w.heap.size w w' := by
  have hs := src_new c h
  go_enter Try.func9, Try.ntmps9
  go_wp2_with fail
  refine (any1_left _ a zs c 0 _ hs (by omega)).mono ?_
  rintro e w1 ⟨s, rfl, hz1, hL1⟩
  go_wp2_with fail
  refine (of_list [⟨#[44]⟩, ⟨#[44]⟩, ⟨#[32]⟩, ⟨#[]⟩, ⟨#[44, 44]⟩] 2 5 (by decide +kernel) _ a zs c 2 _ rfl (by simp) (by simp) hL1.1 (by omega)).mono ?_
  rintro e w2 ⟨t, rfl, hz2, hL2⟩
  have hb2 : Below w.heap.size w w2 := below_new _ (hL1.trans hL2)
  go_wp2_with fail
  go_ret2
  exact ⟨s, t, rfl, hz1, hz2, hb2⟩

set_option maxHeartbeats 1000000 in
theorem join_any (a : Option Addr) (zs : List Int) (c : Nat) (w : World) (h : drawany.Code w a zs) :
    Calls Try.prog 11 #[.slice a zs.length c] w fun e w' => ∃ (ss : List ByteArray) (p : Option Addr) (cap : Nat) (t : ByteArray), e = .returned (.tuple #[.slice p ss.length cap, .string t]) ∧
      ss.length ≤ cap ∧ ss.length ≤ 4 ∧ strs.tot ss ≤ 5000 ∧ t.size ≤ 2 ∧ strs.Reads w' p ss ∧ Below w.heap.size w w' := by
  have hs := src_new c h
  obtain ⟨i0, hi, hz0, hz1, hz2⟩ := info_parts infoStr
  go_enter Try.func11, Try.ntmps11
  go_wp2_with fail
  have hs1 := hs.below ((Below.refl (w.heap.size + 1) _).alloc (by simp) (.cells #[] 9))
  refine (pick_src 4 _ a zs c 0 _ (by omega) (by omega) hs1 (by omega)).mono ?_
  rintro e w1 ⟨n, rfl, hn0, hn1, hL1⟩
  obtain ⟨n, rfl⟩ := Int.eq_ofNat_of_zero_le hn0
  have hown0 : w1.ownsRow (w.heap.size + 1) 9 1 (.slice (some ⟨w.heap.size + 1, 0, none⟩) 0 0) 0 [] := by
    have h0 := World.ownsRow_made (base := w.heap.size + 1) (e := 9) (size := 1) (w.alloc (.cells #[.slice a zs.length c, .int .i64 0, .int .u64 0] 44)) #[] 0 (by simp) (by unfold maxLen; omega) rfl
    have e : (w.alloc (.cells #[.slice a zs.length c, .int .i64 0, .int .u64 0] 44)).heap.size = w.heap.size + 1 := by simp
    rw [e] at h0
    exact h0.kept hL1.2 (.inr (by simp [Value.ownBlock]))
  have hb1 : Below w.heap.size w w1 := (((Below.refl _ _).alloc (Nat.le_refl _) _).alloc (by simp) _).trans (below_of_grown hL1.2 _ (Nat.le_refl _) (by simp; omega))
  have hs2 := hL1.1
  clear hL1 hs1 hs
  go_wp2_with fail
  go_loopw [5, 7] (fun v i wr => ∃ (k : Nat) (ss : List ByteArray), k ≤ n ∧ i = .int .i64 k ∧ ss.length = k ∧ strs.tot ss ≤ 10 * k ∧
      wr.ownsRow (w.heap.size + 1) 9 1 v ss.length (ss.map Value.string) ∧ Src wr w.heap.size a zs c (2 + 2 * k) ∧ Below w.heap.size w wr) (fun _ i _ => n - (intOf i).toNat)
  case atStart => exact ⟨0, [], Nat.zero_le _, rfl, rfl, Nat.le_refl _, hown0, hs2, hb1⟩
  case round =>
    obtain ⟨k, ss, hk, rfl, hss, htot, hown, hsr, hbel⟩ := hrel
    clear hown0 hb1 hs2
    have HB := Lib.hid hbel
    have hsz := hsr.cur.lt
    clear hbel
    by_cases hlt : k < n
    · go_wp2_with fail
      refine (any1_left _ a zs c _ _ hsr (by omega)).mono ?_
      rintro e w2 ⟨x, rfl, hx, hL⟩
      have hown2 := hown.kept hL.2 (.inr (by
        intro e
        have := (hown.lt _ e).1
        omega))
      have hb2 := HB.out.trans (below_of_grown hL.2 _ (Nat.le_refl _) (Nat.le_of_lt hsz))
      have HB2 := Lib.hid hb2
      have hsz2 := hL.1.cur.lt
      have HS := Lib.hid hL.1
      clear hown hL hb2
      go_wp2_with (at_builtin; refine wpList_append_own _ rfl _ _ 26 rfl (w.heap.size + 1) 9 i0 (.string ByteArray.empty) 1 16 Try.underlying26 hi hz0 hz1 hz2 rfl (by decide) _ _ _ rfl (hown2.alloc _) ⟨w2.heap.size, 0, none⟩ 1 1 [.string x] rfl rfl (cell_one_new _ _ _) (by simp [Value.oneCell']) (by unfold maxLen; omega) (by omega) (by simp; omega) ?_; intro v' w3 hown' hgrow _; refine Hid.out ?_)
      refine Lib.hid ?_
      have HO := Lib.hid hown'
      have hb3 : Below w.heap.size w w3 := (HB2.out.alloc (by omega) _).grown hgrow (by simp; omega) (fun j e => by have := (hown2.lt j e).1; omega)
      have hs3 : Src w3 w.heap.size a zs c (2 + 2 * k + 2) := HS.out.below (((Below.refl (w.heap.size + 1) w2).alloc (by omega) _).grown hgrow (by simp; omega) (fun j e => (hown2.lt j e).1))
      have HB3 := Lib.hid hb3
      have HS3 := Lib.hid hs3
      clear hown2 hown' hgrow hb3 hs3
      go_wp2
      go_roundw
      case rel => exact ⟨k + 1, ss ++ [x], by omega, by go_num, by simp [hss], by simp [strs.tot] at *; omega, by rw [List.length_append, List.map_append]; exact HO.out, HS3.out.more (by omega), HB3.out⟩
      case measure => simp [intOf]; omega
    · have : k = n := by omega
      subst this
      clear hk hlt hn0
      go_wp2_with fail
      refine (one_src 20 _ a zs c _ _ (by omega) (by omega) hsr (by omega)).mono ?_
      rintro e w2 ⟨x, rfl, hL⟩
      have hown2 := hown.kept hL.2 (.inr (by
        intro e
        have := (hown.lt _ e).1
        omega))
      have HB2 := Lib.hid (HB.out.trans (below_of_grown hL.2 _ (Nat.le_refl _) (Nat.le_of_lt hsz)))
      have hsz2 := hL.1.cur.lt
      have hs2 := hL.1
      clear hown hL hsr HB
      cases x with
      | true =>
        go_wp2_with fail
        refine (pick_src 20 _ a zs c _ _ (by omega) (by omega) hs2 (by omega)).mono ?_
        rintro e w3 ⟨x, rfl, hx0, hx1, hL⟩
        have hown3 := hown2.kept hL.2 (.inr (by
          intro e
          have := (hown2.lt _ e).1
          omega))
        have HB3 := Lib.hid (HB2.out.trans (below_of_grown hL.2 _ (Nat.le_refl _) (Nat.le_of_lt hsz2)))
        have hsz3 := hL.1.cur.lt
        have HS3 := Lib.hid hL.1
        have HO3 := Lib.hid hown3
        clear hown2 hL hs2 HB2 hown3
        obtain ⟨i1, hi1, hz10, hz11, hz12⟩ := info_parts infoByte
        obtain ⟨n, rfl⟩ := Int.eq_ofNat_of_zero_le hx0
        go_wp2_with (refine wpList_make_full _ rfl _ _ 22 rfl w3.heap.size 5 i1 (.int .u8 0) 1 Try.underlying22 hi1 hz10 hz11 .i64 .i64 _ _ (3990 + n) rfl rfl (by omega) (by omega) (by rw [hz12]; omega) (by unfold maxLen; omega) (Nat.le_refl _) ?_; intro w4 hown4 hgrow4; refine Hid.out ?_)
        refine Lib.hid ?_
        have hcells : ∀ j, j < 3990 + n → w4.cell? ⟨w3.heap.size, j, none⟩ = some (.int .u8 0) := by
          intro j hj
          rw [hown4.cellAt j (by omega), show (Value.int .u8 0).cells = #[Value.int .u8 0] from rfl, Nat.mul_one, toList_madeCells_one, List.getElem?_replicate, if_pos hj]
        have hb4 : Below w.heap.size w w4 := HB3.out.grown hgrow4 HB3.out.size (by simp)
        have HB4 := Lib.hid hb4
        have hs4 := HS3.out.below ((Below.refl (w.heap.size + 1) w3).grown hgrow4 (by omega) (by simp))
        have hown5 := HO3.out.kept hgrow4 (by cases hv : Value.ownBlock _ <;> simp)
        have hsz4 := hs4.cur.lt
        obtain ⟨s, hs', hconv⟩ : ∃ s : ByteArray, s.size ≤ 4020 ∧ (convert 22 9 (.slice (some ⟨w3.heap.size, 0, none⟩) (3990 + n) (3990 + n))).run Try.prog w4 = .ok (.string s) w4 := by
          refine ⟨⟨(List.replicate (3990 + n) 0).toArray⟩, by show (List.replicate (3990 + n) (0 : UInt8)).toArray.size ≤ 4020; simp; omega, ?_⟩
          have := run_convert_bytes_back (P := Try.prog) w4 22 9 5 ⟨w3.heap.size, 0, none⟩ (3990 + n) (List.replicate (3990 + n) (0 : UInt8)) Try.underlying22 Try.underlying5 Try.underlying9 (fun j hj => by
            rw [List.length_replicate] at hj
            rw [List.getElem_replicate]
            rw [Go.WideShapes.add_plain, Nat.zero_add]
            exact hcells j hj)
          rw [List.length_replicate] at this
          exact this
        have HS4 := Lib.hid hs4
        clear hcells hown4 hgrow4 hb4 HB3 HS3 HO3 hs4
        go_wp2_with (at_builtin; refine wpList_append_own _ rfl _ _ 26 rfl (w.heap.size + 1) 9 i0 (.string ByteArray.empty) 1 16 Try.underlying26 hi hz0 hz1 hz2 rfl (by decide) _ _ _ rfl (hown5.alloc _) ⟨w4.heap.size, 0, none⟩ 1 1 [.string s] rfl rfl (cell_one_new _ _ _) (by simp [Value.oneCell']) (by unfold maxLen; omega) (by omega) (by simp; omega) ?_; intro v' w5 hown' hgrow _; refine Hid.out ?_)
        refine Lib.hid ?_
        have HO := Lib.hid hown'
        have HB5 := Lib.hid (show Below w.heap.size w w5 from (HB4.out.alloc (by omega) _).grown hgrow (by simp; omega) (fun j e => by have := (hown5.lt j e).1; omega))
        have hs5 := HS4.out.below (((Below.refl (w.heap.size + 1) w4).alloc (by omega) _).grown hgrow (by simp; omega) (fun j e => (hown5.lt j e).1))
        have hsz5 := hs5.cur.lt
        clear hown5 hown' hgrow hconv HB4 HS4
        go_wp2_with fail
        refine (of_list [⟨#[44]⟩, ⟨#[59]⟩, ⟨#[59]⟩, ⟨#[]⟩, ⟨#[97, 98]⟩] 2 5 (by decide +kernel) _ a zs c _ _ rfl (by simp) (by simp) hs5 (by omega)).mono ?_
        rintro e w6 ⟨t, rfl, hzt, hL⟩
        have hown6 := HO.out.kept hL.2 (.inr (by
          intro e
          have := (HO.out.lt _ e).1
          omega))
        have HB6 := Lib.hid (HB5.out.trans (below_of_grown hL.2 _ (Nat.le_refl _) (Nat.le_of_lt hsz5)))
        obtain ⟨p, cap, rfl, hcap, hrd⟩ := own_read (ss := ss ++ [s]) (by rw [List.length_append, List.map_append]; exact hown6)
        clear hown6 HO hs5 hL HB5
        go_wp2_with fail
        go_ret2
        exact ⟨ss ++ [s], p, cap, t, by simp [hss], hcap, by simp; omega, by simp [strs.tot] at *; omega, hzt, hrd, HB6.out⟩
      | false =>
        go_wp2_with fail
        refine (of_list [⟨#[44]⟩, ⟨#[59]⟩, ⟨#[59]⟩, ⟨#[]⟩, ⟨#[97, 98]⟩] 2 5 (by decide +kernel) _ a zs c _ _ rfl (by simp) (by simp) hs2 (by omega)).mono ?_
        rintro e w3 ⟨t, rfl, hzt, hL⟩
        have hown3 := hown2.kept hL.2 (.inr (by
          intro e
          have := (hown2.lt _ e).1
          omega))
        have HB3 := Lib.hid (HB2.out.trans (below_of_grown hL.2 _ (Nat.le_refl _) (Nat.le_of_lt hsz2)))
        obtain ⟨p, cap, rfl, hcap, hrd⟩ := own_read hown3
        clear hown2 hown3 hs2 hL HB2
        go_wp2_with fail
        go_ret2
        exact ⟨ss, p, cap, t, by simp [hss], hcap, by omega, by omega, hzt, hrd, HB3.out⟩
end Go.Proofs.Ytocjedheimhfoaa.drawsplit
