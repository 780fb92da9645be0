/- The walks of PermuteBits: the model's and the program's. -/
import Derived.Test.YtobdapalllaceaaPerm
import Derived.BigQuiet
namespace Go.Proofs.Ytobdapalllaceaa.permm
open Go.RowKit own pp nums range tab fromw bitw has permp permw
set_option linter.unusedVariables false
set_option linter.unusedSimpArgs false

open mk (mk_length mk_succ mk_congr pow4)
set_option maxRecDepth 100000 in
set_option maxHeartbeats 4000000 in
theorem spec_no (n : Int) (a : Option Addr) (zs : List Int) (c : Nat) (a' : Option Addr) (to : List Int) (c' : Nat) (w : World) (hr : ints.Reads .i64 w a zs) (hq : ints.Reads .i64 w a' to) (hm : to.length ≤ 1048576) (hk : tab.tabB n zs = false) :
    Calls Try.prog 15 #[.int .i64 n, .slice a zs.length c, .slice a' to.length c'] w (RetIB [] false w) := by
  have HT := Lib.hid (fun (wa : World) (hb : Below w.heap.size w wa) => tab.spec_tab n a zs c wa (hr.below hb) false (Lib.hid hk))
  clear hr hk hq
  go_enter Try.func15, Try.ntmps15
  go_wp2_with fail
  refine (HT.out _ (below_alloc w (.cells #[] 3))).mono ?_
  rintro e w' ⟨rfl, m, rfl⟩
  go_wp2_with fail
  go_ret2
  exact ⟨_, rfl, (own_empty _).mono (Nat.le_refl _) (by simp), ints.below_drewN (below_alloc w (.cells #[] 3)) _⟩
set_option maxRecDepth 100000 in
set_option maxHeartbeats 4000000 in
theorem spec_no2 (m0 : Nat) (a : Option Addr) (zs : List Int) (c : Nat) (a' : Option Addr) (to : List Int) (c' : Nat) (w : World) (hr : ints.Reads .i64 w a zs) (hq : ints.Reads .i64 w a' to) (hm : to.length ≤ 1048576) (hk : tab.tabB m0 zs = true) (hx : orderB m0 to = false) :
    Calls Try.prog 15 #[.int .i64 m0, .slice a zs.length c, .slice a' to.length c'] w (RetIB [] false w) := by
  have HT := Lib.hid (fun (wa : World) (hb : Below w.heap.size w wa) => tab.spec_tab m0 a zs c wa (hr.below hb) true (Lib.hid hk))
  have hfit := (tab_iff _ _).1 hk
  have h4 : m0 ≤ 4 := by omega
  clear hfit
  have HQ := Lib.hid hq
  have HP := Lib.hid (show permB m0 to = false by rw [← order_perm h4]; exact hx)
  by_cases hl : to.length = m0
  · have HL := Lib.hid hl
    have g1 : ((to.length : Int) != (m0 : Int)) = false := by rw [bne_eq_false_iff_eq]; omega
    clear hr hk hq hx hl
    go_enter Try.func15, Try.ntmps15
    go_wp2_with fail
    refine (HT.out _ (below_alloc w (.cells #[] 3))).mono ?_
    rintro e w' ⟨rfl, m, rfl⟩
    go_wp2_with fail
    have HBm := Lib.hid (show Below w.heap.size w ((w.alloc (.cells #[] 3)).drewN m) from ints.below_drewN (below_alloc w (.cells #[] 3)) m)
    go_loop [9] (fun i => ∃ k : Nat, k ≤ m0 ∧ i = .int .i64 k ∧ Hid (∀ j, j < k → hasB to (j : Int) = true)) (fun i => m0 - (intOf i).toNat)
    case atStart => exact ⟨0, Nat.zero_le _, rfl, fun j hj => by omega⟩
    case round =>
      obtain ⟨k, hk, rfl, hj⟩ := hrel
      by_cases hlt : k < m0
      · cases hx : hasB to (k : Int)
        · have HH := Lib.hid (spec_has a' to c' (k : Int) _ (HQ.out.below HBm.out) hm false (Lib.hid hx))
          clear hx hj
          go_wp2_with fail
          refine HH.out.mono ?_
          rintro e w' ⟨rfl, rfl⟩
          go_wp2_with fail
          go_ret2
          exact ⟨_, rfl, (own_empty _).mono (Nat.le_refl _) (by simp), HBm.out⟩
        · have HH := Lib.hid (spec_has a' to c' (k : Int) _ (HQ.out.below HBm.out) hm true (Lib.hid hx))
          have HJ : Hid (∀ j, j < k + 1 → hasB to (j : Int) = true) := fun j h => by
            by_cases e : j = k
            · rw [e]; exact hx
            · exact hj.out j (by omega)
          clear hx hj
          go_wp2_with fail
          refine HH.out.mono ?_
          rintro e w' ⟨rfl, rfl⟩
          go_wp2_with fail
          go_round
          case rel => exact ⟨k + 1, by omega, by go_num, HJ⟩
          case measure => simp [intOf]; omega
      · obtain rfl : k = m0 := by omega
        have hy := perm_ok HL.out hj.out
        rw [HP.out] at hy
        cases hy

  · have g1 : ((to.length : Int) != (m0 : Int)) = true := by rw [bne_iff_ne]; omega
    clear hr hk hq hx hl
    go_enter Try.func15, Try.ntmps15
    go_wp2_with fail
    refine (HT.out _ (below_alloc w (.cells #[] 3))).mono ?_
    rintro e w' ⟨rfl, m, rfl⟩
    go_wp2_with fail
    go_ret2
    exact ⟨_, rfl, (own_empty _).mono (Nat.le_refl _) (by simp), ints.below_drewN (below_alloc w (.cells #[] 3)) _⟩
set_option maxRecDepth 100000 in
set_option maxHeartbeats 4000000 in
theorem spec_yes (m0 : Nat) (a : Option Addr) (zs : List Int) (c : Nat) (a' : Option Addr) (to : List Int) (c' : Nat) (w : World) (hr : ints.Reads .i64 w a zs) (hq : ints.Reads .i64 w a' to) (hm : to.length ≤ 1048576) (hk : tab.tabB m0 zs = true) (hx : orderB m0 to = true) :
    Calls Try.prog 15 #[.int .i64 m0, .slice a zs.length c, .slice a' to.length c'] w (RetIB (permT zs to m0) true w) := by
  obtain ⟨i0, hi, hz0, hz1, hz2⟩ := info_parts mk.infoInt
  have HT := Lib.hid (fun (wa : World) (hb : Below w.heap.size w wa) => tab.spec_tab m0 a zs c wa (hr.below hb) true (Lib.hid hk))
  have HQ := Lib.hid hq
  have HR := Lib.hid hr
  have HX := Lib.hid hx
  obtain ⟨m1, he, h4, hpw, h16, hrg⟩ := tab_nat hk
  obtain rfl : m0 = m1 := by omega
  have HL2 := Lib.hid hpw
  have HP := Lib.hid (show permB m0 to = true by rw [← order_perm h4]; exact hx)
  have HL := Lib.hid (perm_len hx)
  have g1 : ((to.length : Int) != (m0 : Int)) = false := by rw [bne_eq_false_iff_eq]; have := HL.out; omega
  clear hr hk hq hx hpw hrg he
  go_enter Try.func15, Try.ntmps15
  go_wp2_with fail
  refine (HT.out _ (below_alloc w (.cells #[] 3))).mono ?_
  rintro e w' ⟨rfl, m, rfl⟩
  go_wp2_with fail
  have HBm := Lib.hid (show Below w.heap.size w ((w.alloc (.cells #[] 3)).drewN m) from ints.below_drewN (below_alloc w (.cells #[] 3)) m)
  go_loop [9] (fun i => ∃ k : Nat, k ≤ m0 ∧ i = .int .i64 k ∧ Hid (∀ j, j < k → hasB to (j : Int) = true)) (fun i => m0 - (intOf i).toNat)
  case atStart => exact ⟨0, Nat.zero_le _, rfl, fun j hj => by omega⟩
  case round =>
    obtain ⟨k, hk, rfl, hj⟩ := hrel
    by_cases hlt : k < m0
    · cases hx : hasB to (k : Int)
      · have hy := perm_has HP.out k hlt
        rw [hy] at hx
        cases hx
      · have HH := Lib.hid (spec_has a' to c' (k : Int) _ (HQ.out.below HBm.out) hm true (Lib.hid hx))
        have HJ : Hid (∀ j, j < k + 1 → hasB to (j : Int) = true) := fun j h => by
          by_cases e : j = k
          · rw [e]; exact hx
          · exact hj.out j (by omega)
        clear hx hj
        go_wp2_with fail
        refine HH.out.mono ?_
        rintro e w' ⟨rfl, rfl⟩
        go_wp2_with fail
        go_round
        case rel => exact ⟨k + 1, by omega, by go_num, HJ⟩
        case measure => simp [intOf]; omega
    · obtain rfl : k = m0 := by omega
      clear hj
      have HO0 := Lib.hid (show ((w.alloc (.cells #[] 3)).drewN m).ownsRow w.heap.size 3 1 (.slice (some ⟨w.heap.size, 0, none⟩) 0 0) 0 ((mk.mk (pe zs to k) 0).map (Value.int .i64)) from (own_empty w).1)
      go_wp2_with fail
      go_loopw [8, 10] (fun v i wr => ∃ (q : Nat), q ≤ zs.length ∧ i = .int .i64 q ∧ wr.ownsRow w.heap.size 3 1 v q ((mk.mk (pe zs to k) q).map (Value.int .i64)) ∧ Below w.heap.size w wr) (fun _ i _ => zs.length - (intOf i).toNat)
      case atStart => exact ⟨0, Nat.zero_le _, rfl, HO0.out, HBm.out⟩
      case round =>
        obtain ⟨q, hq, rfl, hown, hbel⟩ := hrel
        clear HO0 HBm
        have HV := Lib.hid hown.lt
        have HBl := Lib.hid hbel
        have hsz := hbel.size
        by_cases hlt : q < zs.length
        · have HSn := Lib.hid (mk_succ (pe zs to k) q)
          have HO := Lib.hid hown
          have hqk : q < 2 ^ k := by have := HL2.out; omega
          have hq16 : q < 16 := by omega
          clear hown hbel
          go_wp2_with fail
          go_loopw [11, 12] (fun x i wq => ∃ (j : Nat), j ≤ k ∧ i = .int .i64 j ∧ x = .int .i64 ((srcS (nats to) q j : Nat) : Int) ∧ ∃ z, wq = wr.drewN z) (fun _ i _ => k - (intOf i).toNat)
          case atStart => exact ⟨0, Nat.zero_le _, rfl, rfl, 0, rfl⟩
          case round =>
            obtain ⟨j, hj, rfl, rfl, z, rfl⟩ := hrel
            have HZ := Lib.hid (show ∀ y, ∃ z', (wr.drewN z).drewN y = wr.drewN z' from fun y => ⟨_, World.drewN_drewN _ _ _⟩)
            by_cases hjt : j < k
            · obtain ⟨s, N, d, hs, hs3, hN, hN8, hd, hd01, hS, hO, hS16, hO16, hsn⟩ := src_step h4 HX.out hqk hjt
              obtain ⟨b, off, rfl, hb, hc⟩ := (HQ.out.below (ints.below_drewN HBl.out z)).at (k := j) (by have := HL.out; omega)
              have hbit := bit_at q j hq16
              rw [hd] at hbit
              rw [hs] at hc
              have i1 : (0 : Int) ≤ (j : Int) := by omega
              have i2 : (j : Int) < (to.length : Int) := by have := HL.out; omega
              clear hs hd hO hO16
              generalize wr.drewN z = wz at *
              rcases hd01 with rfl | rfl
              · have HXo := Lib.hid (show srcS (nats to) q j = srcS (nats to) q (j + 1) by omega)
                have hx16 : srcS (nats to) q j < 16 := by omega
                clear hS
                generalize srcS (nats to) q j = x at *
                go_wp2_with fail
                go_quiet (fail)
                go_wp2_with fail
                go_roundw
                case rel => exact ⟨j + 1, by omega, by go_num, by rw [← HXo.out] <;> go_num, HZ.out _⟩
                case measure => simp [intOf]; omega
              · have HXo := Lib.hid (show srcS (nats to) q j + N = srcS (nats to) q (j + 1) by omega)
                have hxn : srcS (nats to) q j + N < 16 := by omega
                clear hS
                generalize srcS (nats to) q j = x at *
                go_wp2_with fail
                go_quiet (fail)
                go_wp2_with fail
                go_roundw
                case rel => exact ⟨j + 1, by omega, by go_num, by rw [← HXo.out]; simp, HZ.out _⟩
                case measure => simp [intOf]; omega
            · obtain rfl : j = k := by omega
              have hy := (src_ok h4 HX.out hqk (Nat.le_refl j)).2
              have HD := Lib.hid (show pe zs to j q = zs.getD (srcS (nats to) q j) 0 from rfl)
              have hlt2 : srcS (nats to) q j < zs.length := by have := HL2.out; omega
              obtain ⟨b, off, rfl, hb, hc⟩ := (HR.out.below (ints.below_drewN HBl.out z)).at hlt2
              replace HO := Lib.hid (show (wr.drewN z).ownsRow w.heap.size 3 1 u8 q ((mk.mk (pe zs to j) q).map (Value.int .i64)) from HO.out)
              replace HBl := Lib.hid (ints.below_drewN HBl.out z)
              clear hy HZ hsz
              have hsz := HBl.out.size
              generalize wr.drewN z = wz at *
              generalize srcS (nats to) q j = y at *
              have i1 : (0 : Int) ≤ (y : Int) := by omega
              have i2 : (y : Int) < (zs.length : Int) := by omega
              generalize zs.getD y 0 = x at *
              go_wp2_with (at_builtin; refine wpList_append_own _ rfl _ _ 22 rfl w.heap.size 3 i0 (.int .i64 0) 1 8 Try.underlying22 hi hz0 hz1 hz2 rfl (by decide) _ _ _ rfl (HO.out.alloc _) ⟨wz.heap.size, 0, none⟩ 1 1 [.int .i64 x] rfl rfl (cell_one_new _ _ _) (by simp [Value.oneCell']) (by unfold maxLen; omega) (by omega) (by simp; omega) ?_; intro v' w2 hown' hgrow _)
              obtain ⟨g', cap', hv'⟩ := ownsRow_succ hown'
              subst hv'
              have HO2 := Lib.hid hown'
              have HB2 := Lib.hid ((HBl.out.alloc hsz _).grown hgrow (by simp; omega) (fun g e => (HV.out g e).1))
              clear hown' hgrow
              go_wp2_with fail
              go_roundw
              case rel => exact ⟨q + 1, by omega, by go_num, by rw [HSn.out, List.map_append, HD.out]; exact HO2.out, HB2.out⟩
              case measure => simp [intOf]; omega
        · obtain rfl : q = zs.length := by omega
          have HF1 := Lib.hid (show RetIB (permT zs to k) true w (.returned (.tuple #[u8, .bool true])) wr from ⟨u8, rfl, OwnI.of (by unfold permT; rw [mk_length]; exact hown), HBl.out⟩)
          clear hown hbel
          go_wp2_with fail
          go_ret2
          exact HF1.out

set_option maxRecDepth 100000 in
set_option maxHeartbeats 4000000 in
theorem impl_no (n : Int) (a : Option Addr) (zs : List Int) (c : Nat) (a' : Option Addr) (to : List Int) (c' : Nat) (w : World) (hr : ints.Reads .i64 w a zs) (hq : ints.Reads .i64 w a' to) (hm : to.length ≤ 1048576) (hk : tab.tabB n zs = false) :
    Calls Try.prog 17 #[.int .i64 n, .slice a zs.length c, .slice a' to.length c'] w (RetIB [] false w) := by
  have HT := Lib.hid (fun (wa : World) (hb : Below w.heap.size w wa) => tab.impl_tab n a zs c wa (hr.below hb) false (Lib.hid hk))
  clear hr hk hq
  go_enter Try.func17, Try.ntmps17
  obtain ⟨w0, hw0⟩ : ∃ w0 : World, w0 = w.alloc (.cells #[.slice a' to.length c'] 22) := ⟨_, rfl⟩
  have x0 : w0.cell? ⟨w.heap.size, 0, none⟩ = some (.slice a' to.length c') := by rw [hw0]; exact cell_new _ _ _ rfl rfl
  have HB0 := Lib.hid (show Below w.heap.size w w0 by rw [hw0]; exact below_alloc w (.cells #[.slice a' to.length c'] 22))
  have s0 : w.heap.size + 1 ≤ w0.heap.size := by rw [hw0]; simp
  go_wp2_with fail
  rw [← hw0]
  clear hw0
  refine (HT.out _ HB0.out).mono ?_
  rintro e w' ⟨rfl, m, rfl⟩
  replace x0 : (w0.drewN m).cell? ⟨w.heap.size, 0, none⟩ = some (.slice a' to.length c') := x0
  replace HB0 := Lib.hid (show Below w.heap.size w (w0.drewN m) from ints.below_drewN HB0.out m)
  replace s0 : w.heap.size + 1 ≤ (w0.drewN m).heap.size := s0
  generalize w0.drewN m = wp at *
  go_wp2_with fail
  go_ret2
  exact ret_empty HB0.out
set_option maxRecDepth 100000 in
set_option maxHeartbeats 4000000 in
theorem impl_no2 (m0 : Nat) (a : Option Addr) (zs : List Int) (c : Nat) (a' : Option Addr) (to : List Int) (c' : Nat) (w : World) (hr : ints.Reads .i64 w a zs) (hq : ints.Reads .i64 w a' to) (hm : to.length ≤ 1048576) (hk : tab.tabB m0 zs = true) (hx : orderB m0 to = false) :
    Calls Try.prog 17 #[.int .i64 m0, .slice a zs.length c, .slice a' to.length c'] w (RetIB [] false w) := by
  have HT := Lib.hid (fun (wa : World) (hb : Below w.heap.size w wa) => tab.impl_tab m0 a zs c wa (hr.below hb) true (Lib.hid hk))
  have hfit := (tab_iff _ _).1 hk
  have h4 : m0 ≤ 4 := by omega
  clear hfit
  have HQ := Lib.hid hq
  have HX := Lib.hid (Lib.hid hx).out
  have HX : Hid (orderB m0 to = false) := Lib.hid hx
  clear hr hk hq hx
  go_enter Try.func17, Try.ntmps17
  obtain ⟨w0, hw0⟩ : ∃ w0 : World, w0 = w.alloc (.cells #[.slice a' to.length c'] 22) := ⟨_, rfl⟩
  have x0 : w0.cell? ⟨w.heap.size, 0, none⟩ = some (.slice a' to.length c') := by rw [hw0]; exact cell_new _ _ _ rfl rfl
  have HB0 := Lib.hid (show Below w.heap.size w w0 by rw [hw0]; exact below_alloc w (.cells #[.slice a' to.length c'] 22))
  have s0 : w.heap.size + 1 ≤ w0.heap.size := by rw [hw0]; simp
  go_wp2_with fail
  rw [← hw0]
  clear hw0
  refine (HT.out _ HB0.out).mono ?_
  rintro e w' ⟨rfl, m, rfl⟩
  replace x0 : (w0.drewN m).cell? ⟨w.heap.size, 0, none⟩ = some (.slice a' to.length c') := x0
  replace HB0 := Lib.hid (show Below w.heap.size w (w0.drewN m) from ints.below_drewN HB0.out m)
  replace s0 : w.heap.size + 1 ≤ (w0.drewN m).heap.size := s0
  generalize w0.drewN m = wp at *
  go_wp2_with fail
  refine (order_any m0 a' to c' wp (HQ.out.below HB0.out) h4 false HX).mono ?_
  rintro e w2 ⟨rfl, hb⟩
  have x1 := cell_below hb x0 (by omega)
  have s2 := hb.size
  replace HB0 := Lib.hid (HB0.out.trans (hb.mono (by omega)))
  clear hb x0
  go_wp2_with fail
  go_ret2
  exact ret_empty HB0.out
set_option maxRecDepth 100000 in
set_option maxHeartbeats 4000000 in
theorem impl_yes (m0 : Nat) (a : Option Addr) (zs : List Int) (c : Nat) (a' : Option Addr) (to : List Int) (c' : Nat) (w : World) (hr : ints.Reads .i64 w a zs) (hq : ints.Reads .i64 w a' to) (hm : to.length ≤ 1048576) (hk : tab.tabB m0 zs = true) (hx : orderB m0 to = true) :
    Calls Try.prog 17 #[.int .i64 m0, .slice a zs.length c, .slice a' to.length c'] w (RetIB (permT zs to m0) true w) := by
  have HT := Lib.hid (fun (wa : World) (hb : Below w.heap.size w wa) => tab.impl_tab m0 a zs c wa (hr.below hb) true (Lib.hid hk))
  have HQ := Lib.hid hq
  have HR := Lib.hid hr
  have HX : Hid (orderB m0 to = true) := Lib.hid hx
  obtain ⟨m1, he, h4, hpw, h16, hrg⟩ := tab_nat hk
  obtain rfl : m0 = m1 := by omega
  have HL := Lib.hid hpw
  have HM := Lib.hid (show mk.mk (fun k => zs.getD (srcS (nats to) k m0) 0) (2 ^ m0) = permT zs to m0 by unfold permT; rw [hpw]; rfl)
  clear hr hk hq hx hpw hrg he
  go_enter Try.func17, Try.ntmps17
  obtain ⟨w0, hw0⟩ : ∃ w0 : World, w0 = w.alloc (.cells #[.slice a' to.length c'] 22) := ⟨_, rfl⟩
  have x0 : w0.cell? ⟨w.heap.size, 0, none⟩ = some (.slice a' to.length c') := by rw [hw0]; exact cell_new _ _ _ rfl rfl
  have HB0 := Lib.hid (show Below w.heap.size w w0 by rw [hw0]; exact below_alloc w (.cells #[.slice a' to.length c'] 22))
  have s0 : w.heap.size + 1 ≤ w0.heap.size := by rw [hw0]; simp
  go_wp2_with fail
  rw [← hw0]
  clear hw0
  refine (HT.out _ HB0.out).mono ?_
  rintro e w' ⟨rfl, m, rfl⟩
  replace x0 : (w0.drewN m).cell? ⟨w.heap.size, 0, none⟩ = some (.slice a' to.length c') := x0
  replace HB0 := Lib.hid (show Below w.heap.size w (w0.drewN m) from ints.below_drewN HB0.out m)
  replace s0 : w.heap.size + 1 ≤ (w0.drewN m).heap.size := s0
  generalize w0.drewN m = wp at *
  go_wp2_with fail
  refine (order_any m0 a' to c' wp (HQ.out.below HB0.out) h4 true HX).mono ?_
  rintro e w2 ⟨rfl, hb⟩
  have x1 := cell_below hb x0 (by omega)
  have s2 := hb.size
  replace HB0 := Lib.hid (HB0.out.trans (hb.mono (by omega)))
  clear hb x0
  go_wp2_with fail
  refine (from_PermuteBits m0 h4 a zs c (.pointer (some ⟨w.heap.size, 0, none⟩)) (fun k => srcS (nats to) k m0) w2 (HR.out.below HB0.out) (Lib.hid (fun k hk => by have := (src_ok h4 HX.out hk (Nat.le_refl m0)).2; have := HL.out; omega)) (by omega) (Lib.hid (fun k wr hk hb => src_at m0 k _ a' to c' wr (cell_below hb x1 (by omega)) ((HQ.out.below HB0.out).below hb) h4 HX.out hk))).mono ?_
  rintro e w3 ⟨v3, rfl, hov, hb3'⟩
  rw [HM.out] at hov
  have hsz := HB0.out.size
  have HF := Lib.hid (show RetIB (permT zs to m0) true w (.returned (.tuple #[v3, .bool true])) w3 from ⟨v3, rfl, hov.mono hsz (Nat.le_refl _), HB0.out.trans (hb3'.mono hsz)⟩)
  clear hov hb3'
  go_wp2_with fail
  go_ret2
  exact HF.out
end Go.Proofs.Ytobdapalllaceaa.permm
