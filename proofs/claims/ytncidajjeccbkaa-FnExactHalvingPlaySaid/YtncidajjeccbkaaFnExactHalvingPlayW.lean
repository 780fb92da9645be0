/- The walk of FnExactHalvingPlay, from what the model's function and the program's return. -/
import Derived.Test.YtncidajjeccbkaaGridMark
import Derived.Test.YtncidajjeccbkaaIntFns
import Derived.Test.YtncidajjeccbkaaOwnG
import Derived.Deep.RegionHeld3
namespace Go.Proofs.Ytncidajjeccbkaa.fnExactHalvingPlayw
open Go.RowKit own
set_option linter.unusedVariables false
set_option linter.unusedSimpArgs false

set_option maxHeartbeats 1000000 in
theorem exit_len2 (a0 : Option Addr) (rows0 : List (List Int)) (c0 : Nat) (n1 : Int) (a2 : Option Addr) (zs2 : List Int) (c2 : Nat) (w : World) (hr0 : grid.Reads w a0 rows0) (hr2 : ints.Reads .i64 w a2 zs2) (hl0 : rows0.length ≤ 9223372036854775807) (hm0 : ∀ s ∈ rows0, s.length ≤ 9223372036854775807)  (hl2 : zs2.length ≤ 9223372036854775807)  (h2 : 1048576 < zs2.length) : Calls Try.prog 13 #[.slice a0 rows0.length c0, .int .i64 n1, .slice a2 zs2.length c2] w fun e w' => e = .returned (.bool true) ∧ Below w.heap.size w w' := by
  have HR0 := Lib.hid hr0
  have HR2 := Lib.hid hr2
  clear hr0 hr2
  clear hm0
  go_enter Try.func13, Try.ntmps13
  go_wp2_with fail
  go_ret
  exact ⟨rfl, by first | exact Below.refl _ _ | exact (Below.refl _ _).alloc (Nat.le_refl _) _ | exact ((Below.refl _ _).alloc (Nat.le_refl _) _).alloc (by simp) _⟩

set_option maxHeartbeats 1000000 in
theorem exit_sz0 (a0 : Option Addr) (rows0 : List (List Int)) (c0 : Nat) (n1 : Int) (a2 : Option Addr) (zs2 : List Int) (c2 : Nat) (w : World) (hr0 : grid.Reads w a0 rows0) (hr2 : ints.Reads .i64 w a2 zs2) (hl0 : rows0.length ≤ 9223372036854775807) (hm0 : ∀ s ∈ rows0, s.length ≤ 9223372036854775807)  (hl2 : zs2.length ≤ 9223372036854775807) (h2 : zs2.length ≤ 1048576) (hx : 1048576 < (rows0.length : Int) + (grid.tot rows0 : Int)) : Calls Try.prog 13 #[.slice a0 rows0.length c0, .int .i64 n1, .slice a2 zs2.length c2] w fun e w' => e = .returned (.bool true) ∧ Below w.heap.size w w' := by
  have HR0 := Lib.hid hr0
  have HR2 := Lib.hid hr2
  clear hr0 hr2
  have HM0 := Lib.hid hm0
  clear hm0
  go_enter Try.func13, Try.ntmps13
  go_wp2_with fail
  have HB0 := Lib.hid (Below.refl w.heap.size w)
  have s0 : w.heap.size ≤ w.heap.size := Nat.le_refl _
  refine (gridfns.sz_no _ rows0 _ _ _ (HR0.out.below HB0.out) (by omega) HM0.out (by omega) (by omega) (by omega)).mono ?_
  rintro e w' ⟨rfl, rfl⟩
  go_wp2_with fail
  go_ret
  exact ⟨rfl, HB0.out⟩

theorem law_big (a0 : Option Addr) (rows0 : List (List Int)) (c0 : Nat) (n1 : Int) (a2 : Option Addr) (zs2 : List Int) (c2 : Nat) (w : World) (hr0 : grid.Reads w a0 rows0) (hr2 : ints.Reads .i64 w a2 zs2) (hl0 : rows0.length ≤ 9223372036854775807) (hm0 : ∀ s ∈ rows0, s.length ≤ 9223372036854775807)  (hl2 : zs2.length ≤ 9223372036854775807) (hx : ¬ (zs2.length ≤ 1048576 ∧ (rows0.length : Int) + (grid.tot rows0 : Int) ≤ 1048576)) : Calls Try.prog 13 #[.slice a0 rows0.length c0, .int .i64 n1, .slice a2 zs2.length c2] w fun e w' => e = .returned (.bool true) ∧ Below w.heap.size w w' := by
  by_cases g2 : 1048576 < zs2.length
  · exact exit_len2 a0 rows0 c0 n1 a2 zs2 c2 w hr0 hr2 hl0 hm0 hl2  g2
  by_cases k0 : 1048576 < (rows0.length : Int) + (grid.tot rows0 : Int)
  · exact exit_sz0 a0 rows0 c0 n1 a2 zs2 c2 w hr0 hr2 hl0 hm0 hl2 (by omega)  k0
  · exact absurd (by refine ⟨?_, ?_⟩ <;> omega) hx

set_option maxRecDepth 100000 in
set_option maxHeartbeats 4000000 in
theorem law_small (a0 : Option Addr) (rows0 : List (List Int)) (c0 : Nat) (n1 : Int) (a2 : Option Addr) (zs2 : List Int) (c2 : Nat) (r0 : List Int) (ok : Bool) (w : World) (hr0 : grid.Reads w a0 rows0) (hr2 : ints.Reads .i64 w a2 zs2) (h0 : zs2.length ≤ 1048576) (h1 : (rows0.length : Int) + (grid.tot rows0 : Int) ≤ 1048576) (hz0 : r0.length ≤ 1048576)
    (HSpec : Hid (∀ (a0 : Option Addr) (c0 : Nat) (a2 : Option Addr) (c2 : Nat) (w : World), grid.Reads w a0 rows0 → rows0.length ≤ c0 → ints.Reads .i64 w a2 zs2 → zs2.length ≤ c2 → Calls Try.prog 44 #[.slice a0 rows0.length c0, .int .i64 n1, .slice a2 zs2.length c2] w (RetIB r0 ok w)))
    (HImpl : Hid (∀ (a0 : Option Addr) (c0 : Nat) (a2 : Option Addr) (c2 : Nat) (w : World), grid.Reads w a0 rows0 → rows0.length ≤ c0 → ints.Reads .i64 w a2 zs2 → zs2.length ≤ c2 → Calls Try.prog 45 #[.slice a0 rows0.length c0, .int .i64 n1, .slice a2 zs2.length c2] w (RetIB r0 ok w))) :
    Calls Try.prog 13 #[.slice a0 rows0.length c0, .int .i64 n1, .slice a2 zs2.length c2] w fun e w' => e = .returned (.bool true) ∧ Below w.heap.size w w' := by
  have HR0 := Lib.hid hr0
  have HR2 := Lib.hid hr2
  clear hr0 hr2
  go_enter Try.func13, Try.ntmps13
  go_wp2_with fail
  have HB0 := Lib.hid (Below.refl w.heap.size w)
  have s0 : w.heap.size ≤ w.heap.size := Nat.le_refl _
  refine (gridfns.sz_yes _ rows0 _ _ _ (HR0.out.below HB0.out) (by omega) (by omega)).mono ?_
  rintro e w' ⟨rfl, rfl⟩
  go_wp2_with fail
  refine (gridfns.to_any a0 rows0 c0 _ (HR0.out.below HB0.out) (by omega)).mono ?_
  rintro e w1 ⟨v, rfl, ho, hb⟩
  obtain ⟨s0a, s0c, rfl, _, hcOs0, _⟩ := ho.slice
  have s1 : w.heap.size ≤ w1.heap.size := hb.size
  have HB1 := Lib.hid (HB0.out.trans (hb.mono (by omega)))
  clear hb
  have Os0 := Lib.hid ho
  clear ho
  go_wp2_with fail
  refine (intfns.to_any a2 zs2 c2 _ (HR2.out.below HB1.out) (by omega)).mono ?_
  rintro e w2 ⟨v, rfl, ho, hb⟩
  obtain ⟨s2a, s2c, rfl, _, hcOs2, _⟩ := ho.slice
  have s2 : w1.heap.size ≤ w2.heap.size := hb.size
  have HB2 := Lib.hid (HB1.out.trans (hb.mono (by omega)))
  replace Os0 := Lib.hid (Os0.out.below hb)
  clear hb
  have Os2 := Lib.hid ho
  clear ho
  go_wp2_with fail
  refine (HSpec.out _ _ _ _ _ Os0.out.reads hcOs0 Os2.out.reads hcOs2).mono ?_
  rintro e w3 ⟨v, rfl, ho, hb⟩
  obtain ⟨va, vc, rfl, _, hcOv, _⟩ := ho.slice
  have s3 : w2.heap.size ≤ w3.heap.size := hb.size
  have HB3 := Lib.hid (HB2.out.trans (hb.mono (by omega)))
  replace Os0 := Lib.hid (Os0.out.below hb)
  replace Os2 := Lib.hid (Os2.out.below hb)
  clear hb
  have Ov := Lib.hid ho
  clear ho
  clear Os0
  clear Os2
  go_wp2_with fail
  refine (gridfns.to_any a0 rows0 c0 _ (HR0.out.below HB3.out) (by omega)).mono ?_
  rintro e w4 ⟨v, rfl, ho, hb⟩
  obtain ⟨x0a, x0c, rfl, _, hcOx0, _⟩ := ho.slice
  have s4 : w3.heap.size ≤ w4.heap.size := hb.size
  have HB4 := Lib.hid (HB3.out.trans (hb.mono (by omega)))
  replace Ov := Lib.hid (Ov.out.below hb)
  clear hb
  have Ox0 := Lib.hid ho
  clear ho
  go_wp2_with fail
  refine (intfns.to_any a2 zs2 c2 _ (HR2.out.below HB4.out) (by omega)).mono ?_
  rintro e w5 ⟨v, rfl, ho, hb⟩
  obtain ⟨x2a, x2c, rfl, _, hcOx2, _⟩ := ho.slice
  have s5 : w4.heap.size ≤ w5.heap.size := hb.size
  have HB5 := Lib.hid (HB4.out.trans (hb.mono (by omega)))
  replace Ov := Lib.hid (Ov.out.below hb)
  replace Ox0 := Lib.hid (Ox0.out.below hb)
  clear hb
  have Ox2 := Lib.hid ho
  clear ho
  go_wp2_with fail
  refine (HImpl.out _ _ _ _ _ Ox0.out.reads hcOx0 Ox2.out.reads hcOx2).mono ?_
  rintro e w6 ⟨v, rfl, ho, hb⟩
  obtain ⟨ga, gc, rfl, _, hcOg, _⟩ := ho.slice
  have s6 : w5.heap.size ≤ w6.heap.size := hb.size
  have HB6 := Lib.hid (HB5.out.trans (hb.mono (by omega)))
  replace Ov := Lib.hid (Ov.out.below hb)
  replace Ox0 := Lib.hid (Ox0.out.below hb)
  replace Ox2 := Lib.hid (Ox2.out.below hb)
  clear hb
  have Og := Lib.hid ho
  clear ho
  go_wp2_with fail
  refine (intfns.eq_same _ _ r0 _ _ _ Og.out.reads Ov.out.reads (by omega)).mono ?_
  rintro e w7 ⟨rfl, hb⟩
  have s7 : w6.heap.size ≤ w7.heap.size := hb.size
  have HB7 := Lib.hid (HB6.out.trans (hb.mono (by omega)))
  replace Ov := Lib.hid (Ov.out.below hb)
  replace Ox0 := Lib.hid (Ox0.out.below hb)
  replace Ox2 := Lib.hid (Ox2.out.below hb)
  replace Og := Lib.hid (Og.out.below hb)
  clear hb
  go_wp2_with fail
  refine (gridfns.to_any a0 rows0 c0 _ (HR0.out.below HB7.out) (by omega)).mono ?_
  rintro e w8 ⟨v, rfl, ho, hb⟩
  obtain ⟨q0a, q0c, rfl, _, hcOq0, _⟩ := ho.slice
  have s8 : w7.heap.size ≤ w8.heap.size := hb.size
  have HB8 := Lib.hid (HB7.out.trans (hb.mono (by omega)))
  replace Ov := Lib.hid (Ov.out.below hb)
  replace Ox0 := Lib.hid (Ox0.out.below hb)
  replace Ox2 := Lib.hid (Ox2.out.below hb)
  replace Og := Lib.hid (Og.out.below hb)
  clear hb
  have Oq0 := Lib.hid ho
  clear ho
  go_wp2_with fail
  refine (gridfns.eq_same _ _ rows0 _ _ _ Ox0.out.reads Oq0.out.reads (by omega) (fun s hs => by have := grid.len_le_tot rows0 s hs; omega)).mono ?_
  rintro e w9 ⟨rfl, hb⟩
  have s9 : w8.heap.size ≤ w9.heap.size := hb.size
  have HB9 := Lib.hid (HB8.out.trans (hb.mono (by omega)))
  replace Ov := Lib.hid (Ov.out.below hb)
  replace Ox0 := Lib.hid (Ox0.out.below hb)
  replace Ox2 := Lib.hid (Ox2.out.below hb)
  replace Og := Lib.hid (Og.out.below hb)
  replace Oq0 := Lib.hid (Oq0.out.below hb)
  clear hb
  clear Oq0
  go_wp2_with fail
  refine (intfns.to_any a2 zs2 c2 _ (HR2.out.below HB9.out) (by omega)).mono ?_
  rintro e w10 ⟨v, rfl, ho, hb⟩
  obtain ⟨q2a, q2c, rfl, _, hcOq2, _⟩ := ho.slice
  have s10 : w9.heap.size ≤ w10.heap.size := hb.size
  have HB10 := Lib.hid (HB9.out.trans (hb.mono (by omega)))
  replace Ov := Lib.hid (Ov.out.below hb)
  replace Ox0 := Lib.hid (Ox0.out.below hb)
  replace Ox2 := Lib.hid (Ox2.out.below hb)
  replace Og := Lib.hid (Og.out.below hb)
  clear hb
  have Oq2 := Lib.hid ho
  clear ho
  go_wp2_with fail
  refine (intfns.eq_same _ _ zs2 _ _ _ Ox2.out.reads Oq2.out.reads (by omega)).mono ?_
  rintro e w11 ⟨rfl, hb⟩
  have s11 : w10.heap.size ≤ w11.heap.size := hb.size
  have HB11 := Lib.hid (HB10.out.trans (hb.mono (by omega)))
  replace Ov := Lib.hid (Ov.out.below hb)
  replace Ox0 := Lib.hid (Ox0.out.below hb)
  replace Ox2 := Lib.hid (Ox2.out.below hb)
  replace Og := Lib.hid (Og.out.below hb)
  replace Oq2 := Lib.hid (Oq2.out.below hb)
  clear hb
  clear Oq2
  go_wp2_with fail
  refine (gridmark.mark_any (w3.heap.size) (w4.heap.size) _ _ rows0 (1) _ Ox0.out (by omega) (by omega)).mono ?_
  rintro e w12 ⟨rfl, ho, hb⟩
  have s12 : w11.heap.size ≤ w12.heap.size := hb.size
  have HB12 := Lib.hid (HB11.out.trans ((hb.below (by omega)).mono (by omega)))
  replace Ov := Lib.hid (Ov.out.only hb (by omega))
  replace Ox2 := Lib.hid (Ox2.out.only hb (by omega))
  replace Og := Lib.hid (Og.out.only hb (by omega))
  clear hb
  replace Ox0 := Lib.hid ho
  clear ho
  go_wp2_with fail
  refine (intfns.mark_any (w4.heap.size) (w5.heap.size) _ _ zs2 (1 + grid.tot rows0) _ Ox2.out (by omega)).mono ?_
  rintro e w13 ⟨rfl, ho, hg⟩
  have hb : Only (w4.heap.size) (w5.heap.size) w12 w13 := Only.of_grown (hg _ rfl) fun g hg => ⟨(Ox2.out.lt hg).1, (Ox2.out.lt hg).2.1⟩
  clear hg
  have s13 : w12.heap.size ≤ w13.heap.size := hb.size
  have HB13 := Lib.hid (HB12.out.trans ((hb.below (by omega)).mono (by omega)))
  replace Ov := Lib.hid (Ov.out.only hb (by omega))
  replace Ox0 := Lib.hid (Ox0.out.only hb (by omega))
  replace Og := Lib.hid (Og.out.only hb (by omega))
  clear hb
  replace Ox2 := Lib.hid ho
  clear ho
  go_wp2_with fail
  refine (intfns.eq_same _ _ r0 _ _ _ Og.out.reads Ov.out.reads (by omega)).mono ?_
  rintro e w14 ⟨rfl, hb⟩
  have s14 : w13.heap.size ≤ w14.heap.size := hb.size
  have HB14 := Lib.hid (HB13.out.trans (hb.mono (by omega)))
  replace Ov := Lib.hid (Ov.out.below hb)
  replace Ox0 := Lib.hid (Ox0.out.below hb)
  replace Ox2 := Lib.hid (Ox2.out.below hb)
  replace Og := Lib.hid (Og.out.below hb)
  clear hb
  go_wp2_with fail
  clear Ox0
  clear Ox2
  refine (intfns.mark_any (w5.heap.size) (w6.heap.size) _ _ r0 (1) _ Og.out (by omega)).mono ?_
  rintro e w15 ⟨rfl, ho, hg⟩
  have hb : Only (w5.heap.size) (w6.heap.size) w14 w15 := Only.of_grown (hg _ rfl) fun g hg => ⟨(Og.out.lt hg).1, (Og.out.lt hg).2.1⟩
  clear hg
  have s15 : w14.heap.size ≤ w15.heap.size := hb.size
  have HB15 := Lib.hid (HB14.out.trans ((hb.below (by omega)).mono (by omega)))
  replace Ov := Lib.hid (Ov.out.only hb (by omega))
  clear hb
  replace Og := Lib.hid ho
  clear ho
  go_wp2_with fail
  refine (intfns.held_any _ _ r0.length (1) _ Og.out.reads (by omega)).mono ?_
  rintro e w16 ⟨rfl, hb⟩
  have s16 : w15.heap.size ≤ w16.heap.size := hb.size
  have HB16 := Lib.hid (HB15.out.trans (hb.mono (by omega)))
  replace Ov := Lib.hid (Ov.out.below hb)
  replace Og := Lib.hid (Og.out.below hb)
  clear hb
  go_wp2_with fail
  refine (gridfns.to_any a0 rows0 c0 _ (HR0.out.below HB16.out) (by omega)).mono ?_
  rintro e w17 ⟨v, rfl, ho, hb⟩
  obtain ⟨h0a, h0c, rfl, _, hcOh0, _⟩ := ho.slice
  have s17 : w16.heap.size ≤ w17.heap.size := hb.size
  have HB17 := Lib.hid (HB16.out.trans (hb.mono (by omega)))
  replace Ov := Lib.hid (Ov.out.below hb)
  replace Og := Lib.hid (Og.out.below hb)
  clear hb
  have Oh0 := Lib.hid ho
  clear ho
  go_wp2_with fail
  refine (intfns.to_any a2 zs2 c2 _ (HR2.out.below HB17.out) (by omega)).mono ?_
  rintro e w18 ⟨v, rfl, ho, hb⟩
  obtain ⟨h2a, h2c, rfl, _, hcOh2, _⟩ := ho.slice
  have s18 : w17.heap.size ≤ w18.heap.size := hb.size
  have HB18 := Lib.hid (HB17.out.trans (hb.mono (by omega)))
  replace Ov := Lib.hid (Ov.out.below hb)
  replace Og := Lib.hid (Og.out.below hb)
  replace Oh0 := Lib.hid (Oh0.out.below hb)
  clear hb
  have Oh2 := Lib.hid ho
  clear ho
  go_wp2_with fail
  refine (HImpl.out _ _ _ _ _ Oh0.out.reads hcOh0 Oh2.out.reads hcOh2).mono ?_
  rintro e w19 ⟨v, rfl, ho, hb⟩
  obtain ⟨ha, hc, rfl, _, hcOh, _⟩ := ho.slice
  have s19 : w18.heap.size ≤ w19.heap.size := hb.size
  have HB19 := Lib.hid (HB18.out.trans (hb.mono (by omega)))
  replace Ov := Lib.hid (Ov.out.below hb)
  replace Og := Lib.hid (Og.out.below hb)
  replace Oh0 := Lib.hid (Oh0.out.below hb)
  replace Oh2 := Lib.hid (Oh2.out.below hb)
  clear hb
  have Oh := Lib.hid ho
  clear ho
  clear Oh0
  clear Oh2
  go_wp2_with fail
  refine (intfns.eq_same _ _ r0 _ _ _ Oh.out.reads Ov.out.reads (by omega)).mono ?_
  rintro e w20 ⟨rfl, hb⟩
  have s20 : w19.heap.size ≤ w20.heap.size := hb.size
  have HB20 := Lib.hid (HB19.out.trans (hb.mono (by omega)))
  replace Ov := Lib.hid (Ov.out.below hb)
  replace Og := Lib.hid (Og.out.below hb)
  replace Oh := Lib.hid (Oh.out.below hb)
  clear hb
  go_wp2_with fail
  refine (intfns.held_any _ _ r0.length (1) _ Og.out.reads (by omega)).mono ?_
  rintro e w21 ⟨rfl, hb⟩
  have s21 : w20.heap.size ≤ w21.heap.size := hb.size
  have HB21 := Lib.hid (HB20.out.trans (hb.mono (by omega)))
  replace Ov := Lib.hid (Ov.out.below hb)
  replace Og := Lib.hid (Og.out.below hb)
  replace Oh := Lib.hid (Oh.out.below hb)
  clear hb
  go_wp2_with fail
  go_ret
  exact ⟨rfl, HB21.out⟩
end Go.Proofs.Ytncidajjeccbkaa.fnExactHalvingPlayw
