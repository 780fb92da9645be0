/- Several texts in one. -/
import Derived.BigQuiet
import Derived.Deep.AppendLies
import Derived.Deep.DrawnRows
import Derived.Deep.RegionHeld3
import Derived.StillTailTactics
import Derived.Test.YthohnnobahcdpaaBrG43
import Derived.Test.YthohnnobahcdpaaBrG41
import Derived.Test.YthohnnobahcdpaaBrG42
namespace Go.Proofs.Ythohnnobahcdpaa.boosti
open Go.RowKit own pp nums range samplesv samplest dots sides both sidesof misof mistakes hefts wm bndp stmp stmo stms stmt margin even boostp boostl bestp bests besti
set_option linter.unusedVariables false
set_option linter.unusedSimpArgs false

set_option maxRecDepth 100000 in
set_option maxHeartbeats 1600000 in
theorem impl_rounds_yes (a : Option Addr) (rows : List (List Int)) (c : Nat) (a' : Option Addr) (zs : List Int) (c' : Nat) (R : Nat) (w : World) (hr : grid.Reads w a rows) (hz : ints.Reads .i64 w a' zs) (hn : rows.length ≤ 1048576) (hk : zs.length ≤ 1048576) (hm : ∀ r ∈ rows, r.length ≤ 1048576) (h8 : R ≤ 8) (hp : hpB rows zs = true) :
    Calls Try.prog 40 #[.agg #[.slice a rows.length c, .slice a' zs.length c'], .int .i64 R] w (RetJIB (bsTo rows zs R) (hfTo rows zs R) true w) := by
  have HHP := Lib.hid (fun (wa : World) (hB : Below w.heap.size w wa) => impl_hasPoints a rows c a' zs c' wa (hr.below hB) (hz.below hB) hn hk hm true (Lib.hid hp))
  obtain ⟨j0, hj, hjz0, hjz1, hjz2⟩ := info_parts infoP
  have h16 := (row4 hp).2
  have hpos := ((hpB_iff _ _).1 hp).2
  have HBX := Lib.hid (fun (k : Nat) => stump_both hp _ (best_mem hp (hfTo rows zs k)))
  have HON := Lib.hid (fun (wa : World) => impl_even a rows c a' zs c' 1 wa h16)
  have HBS := Lib.hid (fun (k : Nat) (hk8 : k ≤ 8) (wa : World) (hB : Below w.heap.size w wa) (e : Option Addr) (d : Nat) (hh : ints.Reads .i64 wa e (hfTo rows zs k)) => (show Calls Try.prog 35 #[.agg #[.slice a rows.length c, .slice a' zs.length c'], .slice e rows.length d] wa (RetPB (bestX rows zs (hfTo rows zs k)).1 (bestX rows zs (hfTo rows zs k)).2 true wa) from by have h1 := impl_best_yes a rows c a' zs c' e (hfTo rows zs k) d wa (hr.below hB) (hz.below hB) hh hn hk hm (by rw [hfTo_length]; exact hn) hp (hf_hefts rows zs k hk8); rw [hfTo_length] at h1; exact h1))
  have HMI := Lib.hid (fun (k : Nat) (wa : World) (hB : Below w.heap.size w wa) (p : Option Addr) (q : Nat) (hq : ints.Reads .i64 wa p (bestX rows zs (hfTo rows zs k)).1) => (show Calls Try.prog 84 #[.agg #[.slice a rows.length c, .slice a' zs.length c'], .agg #[.slice p (bestX rows zs (hfTo rows zs k)).1.length q, .int .i64 (bestX rows zs (hfTo rows zs k)).2]] wa (RetIB (msOf rows zs (hfTo rows zs k)) true wa) from misof.impl_yes a rows c a' zs c' p (bestX rows zs (hfTo rows zs k)).1 q (bestX rows zs (hfTo rows zs k)).2 wa (hr.below hB) (hz.below hB) hq hn hk hm (by have h9 := ((planeB_iff _ _).1 ((bothB_iff _ _ _ _).1 (HBX.out k)).2.1).2.1; omega) (Lib.hid (HBX.out k))))
  clear hr hz hp hm
  have r1 : decide ((R : Int) < 0) = false := decide_eq_false (by omega)
  have r2 : decide ((8 : Int) < (R : Int)) = false := decide_eq_false (by omega)
  go_enter Try.func40, Try.ntmps40
  obtain ⟨wb1, hw1⟩ : ∃ wb1 : World, wb1 = w.alloc (.cells #[.slice a rows.length c, .slice a' zs.length c'] 38) := ⟨_, rfl⟩
  have z1 : wb1.heap.size = w.heap.size + 1 := by rw [hw1]; simp
  have x0_0 := (by rw [hw1]; exact cell_new _ _ _ rfl rfl : wb1.cell? ⟨w.heap.size, 0, none⟩ = some (.slice a rows.length c))
  have x0_1 := (by rw [hw1]; exact cell_new _ _ _ rfl rfl : wb1.cell? ⟨w.heap.size, 1, none⟩ = some (.slice a' zs.length c'))
  have HB0 := Lib.hid (show Below w.heap.size w wb1 by rw [hw1]; exact (Below.refl w.heap.size w).alloc (Nat.le_refl _) _)
  have s1 : w.heap.size + 1 ≤ wb1.heap.size := by omega
  have HZ1 := Lib.hid z1
  clear z1
  go_wp2_with fail
  rw [← hw1]
  clear hw1
  refine (HHP.out _ HB0.out).mono ?_
  rintro e w2 ⟨rfl, hb2⟩
  have y0_0 := cell_below hb2 x0_0 (by omega)
  have y0_1 := cell_below hb2 x0_1 (by omega)
  have s2 := hb2.size
  have HB02 := Lib.hid (HB0.out.trans (hb2.mono (by omega)))
  clear hb2 x0_0 x0_1 HB0 HHP
  have q0 := cell_old (.cells #[] 27) y0_0
  have q1 := cell_old (.cells #[] 27) y0_1
  go_wp2_with fail
  clear q0 q1
  have HE := Lib.hid (emptyJ w2)
  have hbe := below_alloc w2 (.cells #[] 27)
  have sE : (w2.alloc (.cells #[] 27)).heap.size = w2.heap.size + 1 := by simp
  generalize hwe : w2.alloc (.cells #[] 27) = wE at *
  refine (HON.out _).mono ?_
  rintro e w3 ⟨v3, rfl, ho3, hb3⟩
  obtain ⟨gh, cap, hv3⟩ : ∃ gh cap, v3 = .slice (some ⟨gh, 0, none⟩) rows.length cap := by
    rcases ho3.1.2 with ⟨_, h9⟩ | ⟨g, cap, cur, e9, _⟩
    · rw [even_length] at h9; omega
    · exact ⟨g, cap, by rw [e9, even_length]⟩
  subst hv3
  have hg1 := ho3.lt (g := gh) rfl
  have hsE := hb3.size
  have HB3 := Lib.hid (hbe.trans (hb3.mono (by omega)))
  have HH0 := Lib.hid (show w3.ownsRow wE.heap.size 3 1 (.slice (some ⟨gh, 0, none⟩) rows.length cap) rows.length ((hfTo rows zs 0).map (Value.int .i64)) from by have h9 := ho3.1; rw [even_length] at h9; exact h9)
  have HK0 := Lib.hid (show OwnK w2.heap.size w3.heap.size w3 (.slice (some ⟨w2.heap.size, 0, none⟩) 0 0) [] [] from ⟨ownsRow_block HE.out.1 (fun g hg => hb3.block g (HE.out.1.lt g hg).2), fun g hg => by have h1 := HE.out.1.lt g hg; have h2 := hb3.size; omega, RowsOf.nil _ _ _⟩)
  have HA0 := Lib.hid (show Av gh (.slice (some ⟨w2.heap.size, 0, none⟩) 0 0) [] 0 from ⟨fun g hg => by (have e2 : w2.heap.size = g := by simpa [Value.ownBlock] using hg); omega, fun i hi => absurd hi (by omega)⟩)
  have hgh1 : w2.heap.size + 1 ≤ gh := by omega
  have hgh2 : gh < w3.heap.size := hg1.2.1
  have XB0 := Lib.hid y0_0
  have XB1 := Lib.hid y0_1
  clear hwe HE hbe ho3 hb3 HON hg1 y0_0 y0_1
  go_wp2_with fail
  go_loopw [7, 32] (fun v i wr => ∃ (k : Nat) (cs : List Value), k ≤ R ∧ i = .int .i64 k ∧ OwnK w2.heap.size wr.heap.size wr v (bsTo rows zs k) cs ∧ Av gh v cs k ∧ wr.ownsRow wE.heap.size 3 1 (.slice (some ⟨gh, 0, none⟩) rows.length cap) rows.length ((hfTo rows zs k).map (Value.int .i64)) ∧ Below w2.heap.size w2 wr ∧ w3.heap.size ≤ wr.heap.size) (fun _ i _ => R - (intOf i).toNat)
  case atStart => exact ⟨0, [], Nat.zero_le _, rfl, HK0.out, HA0.out, HH0.out, HB3.out, Nat.le_refl _⟩
  case round =>
    obtain ⟨k, cs, hk9, rfl, hown, hav, hhf, hbel, hs3⟩ := hrel
    have hszr := hbel.size
    have y0_0 := cell_below hbel XB0.out (by omega)
    have y0_1 := cell_below hbel XB1.out (by omega)
    by_cases hlt : k < R
    · have HBA := Lib.hid (HB02.out.trans (hbel.mono (by omega)))
      have hrd : ints.Reads .i64 wr (some ⟨gh, 0, none⟩) (hfTo rows zs k) := (OwnI.of (by rw [hfTo_length]; exact hhf)).reads
      have HC1 := Lib.hid (HBS.out k (by omega) wr HBA.out _ cap hrd)
      have HC2 := Lib.hid (HMI.out k)
      have HMA := Lib.hid (fun (j : Nat) (h : j < (msOf rows zs (hfTo rows zs k)).length) => ms_at (rows := rows) (zs := zs) (hs := hfTo rows zs k) rfl j h)
      have HMB := Lib.hid (fun (j : Nat) (h : j ≤ (msOf rows zs (hfTo rows zs k)).length) (i : Nat) => ms_bd (rows := rows) (zs := zs) k (by omega) rfl j h i)
      have HSN := Lib.hid (show bsTo rows zs (k + 1) = bsTo rows zs k ++ [((bestX rows zs (hfTo rows zs k)).1, (bestX rows zs (hfTo rows zs k)).2)] from rfl)
      have HHN := Lib.hid (show hfTo rows zs (k + 1) = dblTo (hfTo rows zs k) (msOf rows zs (hfTo rows zs k)) (msOf rows zs (hfTo rows zs k)).length from rfl)
      have hbl := bsTo_length rows zs k
      have HDL := Lib.hid (fun (j : Nat) => (dblTo_length (hfTo rows zs k) (msOf rows zs (hfTo rows zs k)) j).trans (hfTo_length rows zs k))
      have HML := Lib.hid (show (msOf rows zs (hfTo rows zs k)).length ≤ 16 from by have h9 := misTo_length rows zs (bestX rows zs (hfTo rows zs k)).1 (bestX rows zs (hfTo rows zs k)).2 rows.length; unfold msOf; omega)
      have HO := Lib.hid hown
      have HAV := Lib.hid hav
      have HHF := Lib.hid hhf
      have HBl := Lib.hid hbel
      have HVL := Lib.hid (fun g (e : u7.ownBlock = some g) => HO.out.1.lt g e)
      have i1 : (0 : Int) ≤ (k : Int) := by omega
      have i2 : (k : Int) < (R : Int) := by omega
      clear hown hav hhf hbel hrd
      generalize bestX rows zs (hfTo rows zs k) = x at *
      obtain ⟨xw, xb⟩ := x
      dsimp only at HC1 HC2 HSN
      generalize msOf rows zs (hfTo rows zs k) = ms at *
      generalize hfTo rows zs k = hs at *
      generalize bsTo rows zs k = ps at *
      go_wp2_with fail
      refine HC1.out.mono ?_
      rintro e9 w5 ⟨v9, rfl, ho9, hb9⟩
      obtain ⟨p9, c9, hv9, _, _, _⟩ := ho9.slice
      subst hv9
      have hs5 := hb9.size
      have hB6 : Below wr.heap.size wr (w5.alloc (.cells #[.slice p9 xw.length c9, .int .i64 xb] 27)) := hb9.alloc hs5 _
      have P0 : (w5.alloc (.cells #[.slice p9 xw.length c9, .int .i64 xb] 27)).cell? ⟨w5.heap.size, 0, none⟩ = some (.slice p9 xw.length c9) := cell_new _ _ _ rfl rfl
      have P1 : (w5.alloc (.cells #[.slice p9 xw.length c9, .int .i64 xb] 27)).cell? ⟨w5.heap.size, 1, none⟩ = some (.int .i64 xb) := cell_new _ _ _ rfl rfl
      have y0_0 := cell_below hB6 y0_0 (by omega)
      have y0_1 := cell_below hB6 y0_1 (by omega)
      have hz6 : (w5.alloc (.cells #[.slice p9 xw.length c9, .int .i64 xb] 27)).heap.size = w5.heap.size + 1 := by simp
      have HW6 := Lib.hid (ho9.below (below_alloc w5 (.cells #[.slice p9 xw.length c9, .int .i64 xb] 27)))
      have HB6 := Lib.hid hB6
      clear hb9 hB6 ho9
      go_wp2_with fail
      refine (HC2.out _ (HBA.out.trans (HB6.out.mono HBA.out.size)) p9 c9 HW6.out.reads).mono ?_
      rintro e9 w8 ⟨v8, rfl, ho8, hb8⟩
      obtain ⟨pm, qm, hv8, hrm, _, _⟩ := ho8.slice
      subst hv8
      have hs8 := hb8.size
      have HB68 := Lib.hid (HB6.out.trans (hb8.mono (by omega)))
      have HRM := Lib.hid hrm
      have HMG := Lib.hid (fun g (hg : (Value.slice pm ms.length qm).ownBlock = some g) => (show gh + 1 ≤ g by have h1 := (ho8.lt hg).1; omega))
      have HP8 := Lib.hid (HO.out.below HB68.out)
      have HW8 := Lib.hid ((HW6.out.below hb8).mono (Nat.le_refl _) (show w5.heap.size ≤ w8.heap.size by omega))
      have HP08 := Lib.hid (And.intro (cell_below hb8 P0 (by omega)) (cell_below hb8 P1 (by omega)))
      have HH8 := Lib.hid (show w8.ownsRow wE.heap.size 3 1 (.slice (some ⟨gh, 0, none⟩) rows.length cap) rows.length ((dblTo hs ms 0).map (Value.int .i64)) from ownsRow_block HHF.out (fun g hg => HB68.out.block g (HHF.out.lt g hg).2))
      have HB8 := Lib.hid (HBl.out.trans (HB68.out.mono hszr))
      clear ho8 hb8 hrm y0_0 y0_1 P0 P1
      go_wp2_with fail
      go_loopw [48] (fun i wj => ∃ j : Nat, j ≤ ms.length ∧ i = .int .i64 j ∧ wj.ownsRow wE.heap.size 3 1 (.slice (some ⟨gh, 0, none⟩) rows.length cap) rows.length ((dblTo hs ms j).map (Value.int .i64)) ∧ Only gh (gh + 1) w8 wj) (fun i _ => ms.length - (intOf i).toNat)
      case atStart => exact ⟨0, Nat.zero_le _, rfl, HH8.out, Only.refl _ _ _⟩
      case round =>
        obtain ⟨j, hj9, rfl, hhj, hon⟩ := hrel
        have hszj := hon.size
        have hml := HML.out
        by_cases hjt : j < ms.length
        · obtain ⟨mb, mo, hme, hmb, hmc⟩ := HRM.out.at hjt
          subst hme
          have hmg := HMG.out mb rfl
          replace hmc := hon.cell hmc hmb (by omega)
          obtain ⟨p, hpe, hpl⟩ := HMA.out j hjt
          rw [hpe] at hmc
          obtain ⟨hcell, hst⟩ := dbl_own (HDL.out j) hhj p hpl
          have hbd := HMB.out j (by omega) p
          have hfro := hhj.frozenAt p
          have HST := Lib.hid (show (wr.setCell ⟨gh, p, none⟩ (.int .i64 (2 * (dblTo hs ms j).getD p 0))).ownsRow wE.heap.size 3 1 (.slice (some ⟨gh, 0, none⟩) rows.length cap) rows.length ((dblTo hs ms (j + 1)).map (Value.int .i64)) from by
            show (wr.setCell ⟨gh, p, none⟩ (.int .i64 (2 * (dblTo hs ms j).getD p 0))).ownsRow wE.heap.size 3 1 (.slice (some ⟨gh, 0, none⟩) rows.length cap) rows.length ((dbl (dblTo hs ms j) (ms.getD j 0).toNat).map (Value.int .i64))
            rw [hpe]; exact hst)
          have HON2 := Lib.hid hon
          have e1 : IntKind.i64.wrap (2 * (dblTo hs ms j).getD p 0) = 2 * (dblTo hs ms j).getD p 0 := IntWalk.i64_in _ (by omega)
          have k1 : (0 : Int) ≤ (j : Int) := by omega
          have k2 : (j : Int) < (ms.length : Int) := by omega
          have k3 : (0 : Int) ≤ (p : Int) := by omega
          have k4 : (p : Int) < (rows.length : Int) := by omega
          clear hbd hst hpe hhj hon
          generalize (dblTo hs ms j).getD p 0 = y at *
          have e2 : y * 2 = 2 * y := Int.mul_comm _ _
          go_wp2_with fail
          go_roundw
          case rel => exact ⟨j + 1, by omega, by go_num, HST.out, Only.set HON2.out (Nat.le_refl _) (Nat.lt_succ_self _) _⟩
          case measure => simp [intOf]; omega
        · obtain rfl : j = ms.length := by omega
          have hB9 : Below w2.heap.size w2 wr := HB8.out.trans ((hon.below (by omega)).mono (by omega))
          have HKJ := Lib.hid (OwnK.shift HP8.out hon (by rw [hbl]; exact HAV.out) (Nat.le_refl _))
          have HWJ := Lib.hid (HW8.out.block (w' := wr) (fun g hg => hon.block g (HW8.out.lt hg).2.2 (.inr (by have h1 := (HW8.out.lt hg).1; omega))))
          have P0 := hon.cell HP08.out.1 (by omega) (.inr (by omega))
          have P1 := hon.cell HP08.out.2 (by omega) (.inr (by omega))
          have HHJ := Lib.hid hhj
          have HBJ := Lib.hid hB9
          have hlo9 : wr.ownsRow w2.heap.size 27 2 u7 k (flatJ cs ps) := by
            have h1 := HKJ.out.1
            rw [hbl] at h1
            exact h1
          have HLO := Lib.hid hlo9
          have HNW := Lib.hid (cell_two_new wr (.slice p9 xw.length c9) (.int .i64 xb) 27)
          have hz7 : (wr.alloc (.cells #[.slice p9 xw.length c9, .int .i64 xb] 27)).heap.size = wr.heap.size + 1 := by simp
          have hk17 : k ≤ 8 := by omega
          clear hhj hon hB9 hlo9
          go_wp2_with (at_builtin; refine wpList_append_lies _ rfl _ _ 35 rfl w2.heap.size 27 j0 (.agg #[.slice none 0 0, .int .i64 0]) 2 32 Try.underlying35 hj hjz0 hjz1 hjz2 rfl (by decide) u7 k (flatJ cs ps) rfl (HLO.out.alloc _) _ 1 1 [.slice p9 xw.length c9, .int .i64 xb] rfl rfl HNW.out (by simp [Value.oneCell']) (by omega) (by unfold maxLen; omega) (by omega) (by simp; omega) (wr.heap.size + 1) (by simp) ?_; intro gg cap4 w9 hown7 hgrow7 hat7 hlt7; refine Hid.out ?_)
          refine Lib.hid ?_
          have HW6 := Lib.hid ((HWJ.out.below (below_alloc wr (.cells #[.slice p9 xw.length c9, .int .i64 xb] 27))).mono (hi' := (wr.alloc (.cells #[.slice p9 xw.length c9, .int .i64 xb] 27)).heap.size) (Nat.le_refl _) (by omega))
          have hs7 := hgrow7.size
          have hKJ2 := OwnK.below HKJ.out (below_alloc wr (.cells #[.slice p9 xw.length c9, .int .i64 xb] 27))
          have HPU := Lib.hid (OwnK.push2 (b := xb) hKJ2 hszr (by omega) HW6.out (by rw [hbl]; exact hown7) hgrow7)
          have HA7 := Lib.hid (Av.push (v' := .slice (some ⟨gg, 0, none⟩) (k + 1) cap4) (c := .slice p9 xw.length c9) HAV.out (by rw [HO.out.len, hbl]) (fun g hg => by
            have e2 : gg = g := by simpa [Value.ownBlock] using hg
            subst e2
            rcases hat7 with h3 | h3
            · exact HAV.out.1 gg h3
            · have h4 : gg = wr.heap.size + 1 := by simpa using h3
              omega) (fun g hg => by have h1 := HW8.out.lt hg; omega))
          have hgn : ¬ some gh = u7.ownBlock := fun e => HAV.out.1 gh e.symm rfl
          have HH9 := Lib.hid (show w9.ownsRow wE.heap.size 3 1 (.slice (some ⟨gh, 0, none⟩) rows.length cap) rows.length ((hfTo rows zs (k + 1)).map (Value.int .i64)) from by
            rw [HHN.out]
            exact ownsRow_block HHJ.out (fun g hg => by
              have e2 : gh = g := by simpa [Value.ownBlock] using hg
              subst e2
              exact (hgrow7.block gh (by omega) hgn).trans ((below_alloc wr (.cells #[.slice p9 xw.length c9, .int .i64 xb] 27)).block gh (by omega))))
          have HB9 := Lib.hid (show Below w2.heap.size w2 w9 from (HBJ.out.alloc HBJ.out.size _).grown hgrow7 (by omega) (fun g e => (HVL.out g e).1))
          have HR9 := Lib.hid (show OwnK w2.heap.size w9.heap.size w9 (.slice (some ⟨gg, 0, none⟩) (k + 1) cap4) (bsTo rows zs (k + 1)) (cs ++ [.slice p9 xw.length c9]) from by rw [HSN.out]; exact HPU.out)
          clear hown7 hgrow7 hat7 hlt7 hgn hKJ2
          go_wp2_with fail
          go_roundw
          case rel => exact ⟨k + 1, _, by omega, by go_num, HR9.out, HA7.out, HH9.out, HB9.out, by omega⟩
          case measure => simp [intOf]; omega
    · obtain rfl : k = R := by omega
      have HT := Lib.hid (show TwoOf w.heap.size wr.heap.size wr u7 (.slice (some ⟨gh, 0, none⟩) rows.length cap) (bsTo rows zs k) (hfTo rows zs k) from ⟨gh, cs, rfl, (OwnI.of (by rw [hfTo_length]; exact hhf)).mono (by omega) (Nat.le_refl _), OwnK.mono' hown (by omega) (Nat.le_refl _), by rw [bsTo_length]; exact hav⟩)
      have HB9 := Lib.hid (HB02.out.trans (hbel.mono (by omega)))
      clear hown hav hhf hbel
      go_wp2_with fail
      go_ret3
      exact ⟨_, _, rfl, HT.out, HB9.out⟩
end Go.Proofs.Ythohnnobahcdpaa.boosti
