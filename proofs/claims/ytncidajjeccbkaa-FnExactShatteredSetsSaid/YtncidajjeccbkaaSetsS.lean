/- The walks of the lists of all sets: the model's and the program's. -/
import Derived.Test.YtncidajjeccbkaaSetsP
import Derived.Test.YtncidajjeccbkaaSetsN
import Derived.Test.YtncidajjeccbkaaMk
import Derived.Deep.AppendLies
import Derived.Test.YtncidajjeccbkaaWhere3
namespace Go.Proofs.Ytncidajjeccbkaa.setss
open Go.RowKit own pp nums bitn setcmp setord edge setsn setsp
set_option linter.unusedVariables false
set_option linter.unusedSimpArgs false

set_option maxRecDepth 100000 in
set_option maxHeartbeats 4000000 in
theorem spec_sets (m : Nat) (w : World) (h8 : m ≤ 8) :
    Calls Try.prog 95 #[.int .i64 m] w (MadeG (sevS m) w) := by
  obtain ⟨i0, hi, hz0, hz1, hz2⟩ := info_parts setsn.infoSl
  obtain ⟨j0, hjI, hy0, hy1, hy2⟩ := info_parts mk.infoInt
  have hp12 := bits8.pow8 h8
  have HPW := Lib.hid (show ((2 : Int) ^ m) = ((2 ^ m : Nat) : Int) from by simp)
  have HTL := Lib.hid (fun many => sevTo_length m many)
  have HTS := Lib.hid (fun many => sevTo_succ m many)
  obtain ⟨N, hN⟩ : ∃ N : Nat, 2 ^ m = N := ⟨_, rfl⟩
  rw [hN] at hp12 HPW HTL HTS
  clear hN
  go_enter Try.func95, Try.ntmps95
  go_wp2_with fail
  have hown0 := World.ownsRow_made (base := w.heap.size) (e := 30) (size := 1) w #[] 0 (Nat.le_refl _) (by unfold maxLen; omega) rfl
  have hb0 := below_alloc w (.cells #[] 30)
  go_loopw [3, 4] (fun v i wr => ∃ (many : Nat) (pp : Option Addr) (cp : Nat) (cs : List Value), many ≤ m + 1 ∧ i = .int .i64 many ∧ v = .slice pp (sevTo m many).length cp ∧ wr.ownsRow w.heap.size 30 1 (.slice pp (sevTo m many).length cp) (sevTo m many).length cs ∧ RowsOf w.heap.size wr.heap.size wr cs (sevTo m many) ∧ Below w.heap.size w wr) (fun _ i _ => m + 1 - (intOf i).toNat)
  case atStart => exact ⟨0, _, 0, [], Nat.zero_le _, rfl, rfl, hown0, RowsOf.nil _ _ _, hb0⟩
  case round =>
    obtain ⟨many, pp, cp, cs, hk, rfl, rfl, hown, hro, hbel⟩ := hrel
    clear hown0 hb0
    by_cases hlt : many < m + 1
    · have i1 : (many : Int) ≤ (m : Int) := by omega
      have HO := Lib.hid hown
      have HRO := Lib.hid hro
      have HBl := Lib.hid hbel
      have hsm : many * N ≤ 2304 := Nat.le_trans (Nat.mul_le_mul (show many ≤ 9 by omega) hp12.2) (by omega)
      have hl0 := HTL.out many
      clear hown hro hbel
      obtain ⟨wo, hwo⟩ : ∃ wo : World, wo = wr := ⟨_, rfl⟩
      subst hwo
      go_wp2_with fail
      go_loopw [3, 5] (fun v i wr => ∃ (code : Nat) (pp : Option Addr) (cp : Nat) (cs : List Value), code ≤ N ∧ i = .int .i64 code ∧ v = .slice pp (sevTo m many ++ someS m many code).length cp ∧ wr.ownsRow w.heap.size 30 1 (.slice pp (sevTo m many ++ someS m many code).length cp) (sevTo m many ++ someS m many code).length cs ∧ RowsOf w.heap.size wr.heap.size wr cs (sevTo m many ++ someS m many code) ∧ Below w.heap.size w wr) (fun _ i _ => N - (intOf i).toNat)
      case atStart =>
        refine ⟨0, pp, cp, cs, Nat.zero_le _, rfl, ?_, ?_, ?_, HBl.out⟩
        · rw [some_zero, List.append_nil]
        · rw [some_zero, List.append_nil]; exact HO.out
        · rw [some_zero, List.append_nil]; exact HRO.out
      case round =>
        clear HO HRO HBl
        obtain ⟨code, pp, cp, cs, hcN, rfl, rfl, hown, hro, hbel⟩ := hrel
        have hl1 := some_length m many code
        have hla : (sevTo m many ++ someS m many code).length = (sevTo m many).length + (someS m many code).length := List.length_append
        by_cases hcl : code < N
        · have HPs : (2 : Int) ^ m = (N : Int) := HPW.out
          have i2 : (code : Int) < (N : Int) := by omega
          have HO := Lib.hid hown
          have HRO := Lib.hid hro
          have HBl := Lib.hid hbel
          have hsz := hbel.size
          have hll : (sevTo m many ++ someS m many code).length ≤ 4000 := by omega
          have HSH := Lib.hid (fun h => some_hit (m := m) (many := many) (code := code) h)
          have HSM := Lib.hid (fun h => some_miss (m := m) (many := many) (code := code) h)
          clear hown hro hbel hl0 hl1 hla
          generalize sevTo m many = S0 at *
          obtain ⟨R, hR⟩ : ∃ R : List (List Int), S0 ++ someS m many code = R := ⟨_, rfl⟩
          have HRR := Lib.hid hR
          rw [hR] at HO HRO hll ⊢
          clear hR
          go_wp2_with fail
          obtain ⟨w5, hw5⟩ : ∃ w5 : World, w5 = wr := ⟨_, rfl⟩
          subst hw5
          have hown1 := (own_empty w5).1
          have hb1 := below_alloc w5 (.cells #[] 3)
          clear HPs
          go_loopw [6, 7] (fun v i wr => ∃ (k : Nat), k ≤ m ∧ i = .int .i64 k ∧ wr.ownsRow w5.heap.size 3 1 v (pwh.placesTo (fun i => dg code (m - 1 - i) == 0) k).length ((pwh.placesTo (fun i => dg code (m - 1 - i) == 0) k).map (Value.int .i64)) ∧ Below w5.heap.size w5 wr) (fun _ i _ => m - (intOf i).toNat)
          case atStart => exact ⟨0, Nat.zero_le _, rfl, hown1, hb1⟩
          case round =>
            obtain ⟨k, hkm, rfl, hown, hbel⟩ := hrel
            have HV := Lib.hid hown.lt
            have HB5 := Lib.hid hbel
            have hsz5 := hbel.size
            clear hown1 hb1
            by_cases hlt5 : k < m
            · have HO5 := Lib.hid hown
              have hlen := pwh.placesTo_length (fun i => dg code (m - 1 - i) == 0) k
              obtain ⟨j, hj⟩ : ∃ j : Nat, m - 1 - k = j := ⟨_, rfl⟩
              have hmin : min j 64 = j := by omega
              have hbit := dg_at code j (by omega)
              have e2 : IntKind.i64.wrap ((m : Int) - 1) = (m : Int) - 1 := IntWalk.i64_in _ (by omega)
              have e3 : IntKind.i64.wrap ((m : Int) - 1 - k) = (j : Int) := by rw [IntWalk.i64_in _ (by omega)]; omega
              have i3 : (k : Int) < (m : Int) := by omega
              have hHM := pwh.placesTo_hit (fun i => dg code (m - 1 - i) == 0) k
              have hMS := pwh.placesTo_miss (fun i => dg code (m - 1 - i) == 0) k
              simp only [hj] at hHM hMS
              have HHM := Lib.hid hHM
              have HMS := Lib.hid hMS
              have hd := dg_le code j
              clear hown hbel hHM hMS hj
              by_cases hdz : dg code j = 0
              · have HM := Lib.hid (HHM.out (by rw [hdz]; rfl))
                rw [hdz] at hbit
                clear HHM HMS hd hdz
                generalize pwh.placesTo (fun i => dg code (m - 1 - i) == 0) k = ms at *
                go_wp2_with (at_builtin; refine wpList_append_own _ rfl _ _ 30 rfl w5.heap.size 3 j0 (.int .i64 0) 1 8 Try.underlying30 hjI hy0 hy1 hy2 rfl (by decide) _ _ _ rfl (HO5.out.alloc _) ⟨wr.heap.size, 0, none⟩ 1 1 [.int .i64 (k : Nat)] rfl rfl (cell_one_new _ _ _) (by simp [Value.oneCell']) (by unfold maxLen; omega) (by omega) (by simp; omega) ?_; intro v' w2 hown' hgrow _)
                obtain ⟨g', cap', hv'⟩ := ownsRow_succ hown'
                subst hv'
                have HO2 := Lib.hid hown'
                have HB2 := Lib.hid ((HB5.out.alloc hsz5 _).grown hgrow (by simp; omega) (fun g e => (HV.out g e).1))
                clear hown' hgrow
                go_wp2_with fail
                go_roundw
                case rel => exact ⟨k + 1, by omega, by go_num, by rw [HM.out, List.map_append, List.length_append]; exact HO2.out, HB2.out⟩
                case measure => simp [intOf]; omega
              · obtain hd1 : dg code j = 1 := by omega
                have HM := Lib.hid (HMS.out (by rw [hd1]; rfl))
                rw [hd1] at hbit
                clear HHM HMS hd hdz hd1
                generalize pwh.placesTo (fun i => dg code (m - 1 - i) == 0) k = ms at *
                go_wp2_with fail
                go_roundw
                case rel => exact ⟨k + 1, by omega, by go_num, by rw [HM.out]; exact HO5.out, HB5.out⟩
                case measure => simp [intOf]; omega
            · obtain rfl : k = m := by omega
              have hcd : pwh.placesTo (fun i => dg code (k - 1 - i) == 0) k = codeSet k code := rfl
              rw [hcd] at hown
              have hlen := code_len k code
              have hos := OwnI.of hown
              obtain ⟨sa, sc, hvs, _, _, _⟩ := hos.slice
              subst hvs
              have HOS := Lib.hid hos
              have HO6 := Lib.hid (ownsRow_block HO.out (fun g e => HB5.out.block g (HO.out.lt g e).2))
              have HR6 := Lib.hid (HRO.out.below HB5.out)
              have HB6 := Lib.hid (HBl.out.trans (HB5.out.mono hsz))
              have HV6 := Lib.hid HO6.out.lt
              clear hown hbel hos HO HRO HBl hcd
              by_cases hlm : (codeSet k code).length = many
              · have HM := Lib.hid (HSH.out hlm)
                have g0 : (((codeSet k code).length : Int) == (many : Int)) = true := by rw [beq_iff_eq]; omega
                clear HSH HSM hlm
                generalize codeSet k code = s at *
                have hw6 : w.heap.size ≤ wr.heap.size := by omega
                go_wp2_with (at_builtin; refine wpList_append_lies _ rfl _ _ 22 rfl w.heap.size 30 i0 (.slice none 0 0) 1 24 Try.underlying22 hi hz0 hz1 hz2 rfl (by decide) (.slice pp R.length cp) R.length cs rfl (HO6.out.alloc _) ⟨wr.heap.size, 0, none⟩ 1 1 [.slice sa s.length sc] rfl rfl (cell_one_new _ _ _) (by simp [Value.oneCell']) (by omega) (by unfold maxLen; omega) (by omega) (by simp; omega) _ rfl ?_; intro gg cap w7 hown' hgrow hat _)
                have HR7 := Lib.hid (pushR HO6.out HR6.out HOS.out (by omega) hsz5 hgrow)
                have HB7 := Lib.hid ((HB6.out.alloc hw6 _).grown hgrow (by simp; omega) (fun g e => (HV6.out g e).1))
                have HO7 := Lib.hid hown'
                clear hown' hgrow hat
                go_wp2_with fail
                go_roundw
                case rel =>
                  refine ⟨code + 1, some ⟨gg, 0, none⟩, cap, cs ++ [.slice sa s.length sc], by omega, by go_num, ?_, ?_, ?_, HB7.out⟩
                  · rw [HM.out, ← List.append_assoc, HRR.out, List.length_append]; rfl
                  · rw [HM.out, ← List.append_assoc, HRR.out, List.length_append]; exact HO7.out
                  · rw [HM.out, ← List.append_assoc, HRR.out]; exact HR7.out
                case measure => simp [intOf]; omega
              · have HM := Lib.hid (HSM.out hlm)
                have g0 : (((codeSet k code).length : Int) == (many : Int)) = false := by rw [beq_eq_false_iff_ne]; omega
                clear HSH HSM hlm
                generalize codeSet k code = s at *
                go_wp2_with fail
                go_roundw
                case rel =>
                  refine ⟨code + 1, pp, cp, cs, by omega, by go_num, ?_, ?_, ?_, HB6.out⟩
                  · rw [HM.out, HRR.out]
                  · rw [HM.out, HRR.out]; exact HO6.out
                  · rw [HM.out, HRR.out]; exact HR6.out.mono (Nat.le_refl _) hsz5
                case measure => simp [intOf]; omega
        · obtain rfl : code = N := by omega
          have HPs : (2 : Int) ^ m = (code : Int) := HPW.out
          have HM := Lib.hid (HTS.out many)
          have HO := Lib.hid hown
          have HRO := Lib.hid hro
          have HBl := Lib.hid hbel
          clear hown hro hbel
          obtain ⟨R, hR⟩ : ∃ R : List (List Int), sevTo m many ++ someS m many code = R := ⟨_, rfl⟩
          have HRR := Lib.hid hR
          rw [hR] at HO HRO ⊢
          clear hR hla
          go_wp2_with fail
          go_roundw
          case rel =>
            refine ⟨many + 1, pp, cp, cs, by omega, by go_num, ?_, ?_, ?_, HBl.out⟩
            · rw [HM.out, HRR.out]
            · rw [HM.out, HRR.out]; exact HO.out
            · rw [HM.out, HRR.out]; exact HRO.out
          case measure => simp [intOf]; omega
    · obtain rfl : many = m + 1 := by omega
      have HF := Lib.hid (show MadeG (sevS m) w (.returned (.slice pp (sevTo m (m + 1)).length cp)) wr from ⟨_, rfl, ⟨cs, hown, fun g e => (hown.lt g e).2, hro⟩, hbel⟩)
      have i1 : ¬ (((m + 1 : Nat) : Int) ≤ (m : Int)) := by omega
      clear hown hro hbel
      go_wp2_with fail
      go_ret
      exact HF.out
theorem all_closure (k : Nat) (w : World) : Calls Try.prog 97 #[.int .i64 k] w (fun e w' => e = .returned (.bool true) ∧ Below w.heap.size w w') := by
  go_enter Try.func97, Try.ntmps97
  go_wp2_with fail
  go_ret
  exact ⟨rfl, Below.refl _ _⟩
set_option maxRecDepth 100000 in
set_option maxHeartbeats 4000000 in
theorem impl_sets (m : Nat) (w : World) (h8 : m ≤ 8) :
    Calls Try.prog 66 #[.int .i64 m] w (MadeG (allS m) w) := by
  have HS := Lib.hid (sets_where (.func (.func 97) #[] #[]) m (fun _ => true) w h8 (Lib.hid (fun W hb => pwh.where0 97 (enters_of Try.func97 (by kernel_rfl) rfl) (2 ^ m) (fun _ => true) W (by have := bits8.pow8 h8; omega) (Lib.hid (fun k wr hk hb2 => all_closure k wr)))))
  rw [show ((List.range (2 ^ m)).filter (fun _ => true)) = List.range (2 ^ m) from List.filter_eq_self.2 (fun _ _ => rfl)] at HS
  go_enter Try.func66, Try.ntmps66
  go_wp2_with fail
  refine HS.out.mono ?_
  rintro e w' ⟨v, rfl, ho, hb⟩
  have HF := Lib.hid (show MadeG (allS m) w (.returned v) w' from ⟨v, rfl, ho, hb⟩)
  clear ho hb
  go_wp2_with fail
  go_ret
  exact HF.out
end Go.Proofs.Ytncidajjeccbkaa.setss
