/- Several texts in one. -/
import Derived.BigQuiet
import Derived.Deep.AppendLies
import Derived.Deep.DrawnRows
import Derived.Deep.RegionHeld3
import Derived.StillTailTactics
import Derived.Test.YthohnnobahcdpaaBrG43
import Derived.Test.YthohnnobahcdpaaBrG41
namespace Go.Proofs.Ythohnnobahcdpaa.boosts
open Go.RowKit own pp nums range samplesv samplest dots sides both sidesof misof mistakes hefts wm bndp stmp stmo stms stmt margin even boostp boostl bestp bests
set_option linter.unusedVariables false
set_option linter.unusedSimpArgs false

set_option maxRecDepth 100000 in
set_option maxHeartbeats 1600000 in
theorem spec_boost (a : Option Addr) (rows : List (List Int)) (c : Nat) (a' : Option Addr) (zs : List Int) (c' : Nat) (R : Nat) (w : World) (hr : grid.Reads w a rows) (hz : ints.Reads .i64 w a' zs) (hn : rows.length ≤ 1048576) (hk : zs.length ≤ 1048576) (hm : ∀ r ∈ rows, r.length ≤ 1048576) (h8 : R ≤ 8) (hp : hpB rows zs = true) :
    Calls Try.prog 82 #[.agg #[.slice a rows.length c, .slice a' zs.length c'], .int .i64 R] w (MadeJI (bsTo rows zs R) (hfTo rows zs R) w) := by
  obtain ⟨j0, hj, hjz0, hjz1, hjz2⟩ := info_parts infoP
  have h16 := (row4 hp).2
  have hpos := ((hpB_iff _ _).1 hp).2
  have HBX := Lib.hid (fun (k : Nat) => stump_both hp _ (best_mem hp (hfTo rows zs k)))
  have HON := Lib.hid (fun (wa : World) => spec_ones a rows c a' zs c' wa h16)
  have HBS := Lib.hid (fun (k : Nat) (hk8 : k ≤ 8) (wa : World) (hB : Below w.heap.size w wa) (e : Option Addr) (d : Nat) (hh : ints.Reads .i64 wa e (hfTo rows zs k)) => (show Calls Try.prog 80 #[.agg #[.slice a rows.length c, .slice a' zs.length c'], .slice e rows.length d] wa (MadeP (bestX rows zs (hfTo rows zs k)).1 (bestX rows zs (hfTo rows zs k)).2 wa) from by have h1 := spec_best a rows c a' zs c' e (hfTo rows zs k) d wa (hr.below hB) (hz.below hB) hh hp (hf_hefts rows zs k hk8); rw [hfTo_length] at h1; exact h1))
  have HMI := Lib.hid (fun (k : Nat) (wa : World) (hB : Below w.heap.size w wa) (p : Option Addr) (q : Nat) (hq : ints.Reads .i64 wa p (bestX rows zs (hfTo rows zs k)).1) => (show Calls Try.prog 117 #[.agg #[.slice a rows.length c, .slice a' zs.length c'], .agg #[.slice p (bestX rows zs (hfTo rows zs k)).1.length q, .int .i64 (bestX rows zs (hfTo rows zs k)).2]] wa (intfns.Made (msOf rows zs (hfTo rows zs k)) wa) from spec_mistakes a rows c a' zs c' p (bestX rows zs (hfTo rows zs k)).1 q (bestX rows zs (hfTo rows zs k)).2 wa (hr.below hB) (hz.below hB) hq (both_len (HBX.out k)) h16 (by have h9 := ((planeB_iff _ _).1 ((bothB_iff _ _ _ _).1 (HBX.out k)).2.1).2.1; omega) (fit_of (HBX.out k)).1))
  clear hr hz hp hm
  go_enter Try.func82, Try.ntmps82
  obtain ⟨wb1, hw1⟩ : ∃ wb1 : World, wb1 = w.alloc (.cells #[.slice a rows.length c, .slice a' zs.length c'] 38) := ⟨_, rfl⟩
  have z1 : wb1.heap.size = w.heap.size + 1 := by rw [hw1]; simp
  have x0_0 := (by rw [hw1]; exact cell_new _ _ _ rfl rfl : wb1.cell? ⟨w.heap.size, 0, none⟩ = some (.slice a rows.length c))
  have x0_1 := (by rw [hw1]; exact cell_new _ _ _ rfl rfl : wb1.cell? ⟨w.heap.size, 1, none⟩ = some (.slice a' zs.length c'))
  have HB0 := Lib.hid (show Below w.heap.size w wb1 by rw [hw1]; exact (Below.refl w.heap.size w).alloc (Nat.le_refl _) _)
  have s1 : w.heap.size + 1 ≤ wb1.heap.size := by omega
  have HZ1 := Lib.hid z1
  clear z1
  go_wp2_with fail
  rw [← hw1]
  clear hw1
  rw [← HZ1.out]
  have HE := Lib.hid (emptyJ wb1)
  have hbe := below_alloc wb1 (.cells #[] 27)
  have sE : (wb1.alloc (.cells #[] 27)).heap.size = wb1.heap.size + 1 := by simp
  generalize hwe : wb1.alloc (.cells #[] 27) = wE at *
  refine (HON.out _).mono ?_
  rintro e w3 ⟨v3, rfl, ho3, hb3⟩
  obtain ⟨gh, cap, hv3⟩ : ∃ gh cap, v3 = .slice (some ⟨gh, 0, none⟩) rows.length cap := by
    rcases ho3.1.2 with ⟨_, h9⟩ | ⟨g, cap, cur, e9, _⟩
    · rw [even_length] at h9; omega
    · exact ⟨g, cap, by rw [e9, even_length]⟩
  subst hv3
  have hg1 := ho3.lt (g := gh) rfl
  have hsE := hb3.size
  have HB3 := Lib.hid (hbe.trans (hb3.mono (by omega)))
  have HH0 := Lib.hid (show w3.ownsRow wE.heap.size 3 1 (.slice (some ⟨gh, 0, none⟩) rows.length cap) rows.length ((hfTo rows zs 0).map (Value.int .i64)) from by have h9 := ho3.1; rw [even_length] at h9; exact h9)
  have HK0 := Lib.hid (show OwnK wb1.heap.size w3.heap.size w3 (.slice (some ⟨wb1.heap.size, 0, none⟩) 0 0) [] [] from ⟨ownsRow_block HE.out.1 (fun g hg => hb3.block g (HE.out.1.lt g hg).2), fun g hg => by have h1 := HE.out.1.lt g hg; have h2 := hb3.size; omega, RowsOf.nil _ _ _⟩)
  have HA0 := Lib.hid (show Av gh (.slice (some ⟨wb1.heap.size, 0, none⟩) 0 0) [] 0 from ⟨fun g hg => by (have e2 : wb1.heap.size = g := by simpa [Value.ownBlock] using hg); omega, fun i hi => absurd hi (by omega)⟩)
  have hgh1 : wb1.heap.size + 1 ≤ gh := by omega
  have hgh2 : gh < w3.heap.size := hg1.2.1
  have XB0 := Lib.hid x0_0
  have XB1 := Lib.hid x0_1
  clear hwe HE hbe ho3 hb3 HON hg1 x0_0 x0_1
  go_wp2_with fail
  go_loopw [6, 8] (fun v i wr => ∃ (k : Nat) (cs : List Value), k ≤ R ∧ i = .int .i64 k ∧ OwnK wb1.heap.size wr.heap.size wr v (bsTo rows zs k) cs ∧ Av gh v cs k ∧ wr.ownsRow wE.heap.size 3 1 (.slice (some ⟨gh, 0, none⟩) rows.length cap) rows.length ((hfTo rows zs k).map (Value.int .i64)) ∧ Below wb1.heap.size wb1 wr ∧ w3.heap.size ≤ wr.heap.size) (fun _ i _ => R - (intOf i).toNat)
  case atStart => exact ⟨0, [], Nat.zero_le _, rfl, HK0.out, HA0.out, HH0.out, HB3.out, Nat.le_refl _⟩
  case round =>
    obtain ⟨k, cs, hk9, rfl, hown, hav, hhf, hbel, hs3⟩ := hrel
    have hszr := hbel.size
    have x0_0 := cell_below hbel XB0.out (by omega)
    have x0_1 := cell_below hbel XB1.out (by omega)
    by_cases hlt : k < R
    · have HBA := Lib.hid (HB0.out.trans (hbel.mono (by omega)))
      have hrd : ints.Reads .i64 wr (some ⟨gh, 0, none⟩) (hfTo rows zs k) := (OwnI.of (by rw [hfTo_length]; exact hhf)).reads
      have HC1 := Lib.hid (HBS.out k (by omega) wr HBA.out _ cap hrd)
      have HC2 := Lib.hid (HMI.out k)
      have HMA := Lib.hid (fun (j : Nat) (h : j < (msOf rows zs (hfTo rows zs k)).length) => ms_at (rows := rows) (zs := zs) (hs := hfTo rows zs k) rfl j h)
      have HMB := Lib.hid (fun (j : Nat) (h : j ≤ (msOf rows zs (hfTo rows zs k)).length) (i : Nat) => ms_bd (rows := rows) (zs := zs) k (by omega) rfl j h i)
      have HSN := Lib.hid (show bsTo rows zs (k + 1) = bsTo rows zs k ++ [((bestX rows zs (hfTo rows zs k)).1, (bestX rows zs (hfTo rows zs k)).2)] from rfl)
      have HHN := Lib.hid (show hfTo rows zs (k + 1) = dblTo (hfTo rows zs k) (msOf rows zs (hfTo rows zs k)) (msOf rows zs (hfTo rows zs k)).length from rfl)
      have hbl := bsTo_length rows zs k
      have HDL := Lib.hid (fun (j : Nat) => (dblTo_length (hfTo rows zs k) (msOf rows zs (hfTo rows zs k)) j).trans (hfTo_length rows zs k))
      have HML := Lib.hid (show (msOf rows zs (hfTo rows zs k)).length ≤ 16 from by have h9 := misTo_length rows zs (bestX rows zs (hfTo rows zs k)).1 (bestX rows zs (hfTo rows zs k)).2 rows.length; unfold msOf; omega)
      have HO := Lib.hid hown
      have HAV := Lib.hid hav
      have HHF := Lib.hid hhf
      have HBl := Lib.hid hbel
      have HVL := Lib.hid (fun g (e : u6.ownBlock = some g) => HO.out.1.lt g e)
      have i1 : (0 : Int) ≤ (k : Int) := by omega
      have i2 : (k : Int) < (R : Int) := by omega
      clear hown hav hhf hbel hrd
      generalize bestX rows zs (hfTo rows zs k) = x at *
      obtain ⟨xw, xb⟩ := x
      dsimp only at HC1 HC2 HSN
      generalize msOf rows zs (hfTo rows zs k) = ms at *
      generalize hfTo rows zs k = hs at *
      generalize bsTo rows zs k = ps at *
      go_wp2_with fail
      refine HC1.out.mono ?_
      rintro e9 w5 ⟨v9, rfl, ho9, hb9⟩
      obtain ⟨p9, c9, hv9, _, _, _⟩ := ho9.slice
      subst hv9
      have hs5 := hb9.size
      have hB6 : Below wr.heap.size wr ((w5.alloc (.cells #[.slice p9 xw.length c9, .int .i64 xb] 27)).alloc (.cells #[.slice p9 xw.length c9, .int .i64 xb] 27)) := (hb9.alloc hs5 _).alloc (by simp; omega) _
      have hz6 : ((w5.alloc (.cells #[.slice p9 xw.length c9, .int .i64 xb] 27)).alloc (.cells #[.slice p9 xw.length c9, .int .i64 xb] 27)).heap.size = w5.heap.size + 2 := by simp
      have P0 : (w5.alloc (.cells #[.slice p9 xw.length c9, .int .i64 xb] 27)).cell? ⟨w5.heap.size, 0, none⟩ = some (.slice p9 xw.length c9) := cell_new _ _ _ rfl rfl
      have P1 : (w5.alloc (.cells #[.slice p9 xw.length c9, .int .i64 xb] 27)).cell? ⟨w5.heap.size, 1, none⟩ = some (.int .i64 xb) := cell_new _ _ _ rfl rfl
      have HP06 := Lib.hid (And.intro (cell_old (.cells #[.slice p9 xw.length c9, .int .i64 xb] 27) P0) (cell_old (.cells #[.slice p9 xw.length c9, .int .i64 xb] 27) P1))
      have HX06 := Lib.hid (And.intro (cell_below hB6 x0_0 (by omega)) (cell_below hB6 x0_1 (by omega)))
      have hlt6 := size_alloc' w5 (.cells #[.slice p9 xw.length c9, .int .i64 xb] 27)
      have HLO := Lib.hid (show (w5.alloc (.cells #[.slice p9 xw.length c9, .int .i64 xb] 27)).ownsRow wb1.heap.size 27 2 u6 k (flatJ cs ps) from by
        have h1 := HO.out.1
        rw [hbl] at h1
        exact ownsRow_block h1 (fun g hg => (hb9.alloc hs5 (.cells #[.slice p9 xw.length c9, .int .i64 xb] 27)).block g (HVL.out g hg).2))
      have HNW := Lib.hid (show ∀ j u, [Value.slice p9 xw.length c9, .int .i64 xb][j]? = some u → ((w5.alloc (.cells #[.slice p9 xw.length c9, .int .i64 xb] 27)).alloc (.cells #[.slice p9 xw.length c9, .int .i64 xb] 27)).cell? ((⟨w5.heap.size + 1, 0, none⟩ : Addr).add j) = some u from by
        have h9 := cell_two_new (w5.alloc (.cells #[.slice p9 xw.length c9, .int .i64 xb] 27)) (.slice p9 xw.length c9) (.int .i64 xb) 27
        rw [World.size_alloc] at h9
        exact h9)
      have HB6 := Lib.hid hB6
      have HW9 := Lib.hid ((ho9.below (below_alloc w5 (.cells #[.slice p9 xw.length c9, .int .i64 xb] 27))).below (below_alloc _ (.cells #[.slice p9 xw.length c9, .int .i64 xb] 27)))
      have HK6 := Lib.hid (HO.out.below hB6)
      clear hb9 hB6 ho9 x0_0 x0_1
      have hk17 : k ≤ 8 := by omega
      go_wp2_with (at_builtin; refine wpList_append_lies _ rfl _ _ 35 rfl wb1.heap.size 27 j0 (.agg #[.slice none 0 0, .int .i64 0]) 2 32 Try.underlying35 hj hjz0 hjz1 hjz2 rfl (by decide) u6 k (flatJ cs ps) rfl (HLO.out.alloc _) _ 1 1 [.slice p9 xw.length c9, .int .i64 xb] rfl rfl HNW.out (by simp [Value.oneCell']) (by omega) (by unfold maxLen; omega) (by omega) (by simp; omega) (w5.heap.size + 1 + 1) (by simp) ?_; intro gg cap4 w7 hown7 hgrow7 hat7 hlt7; refine Hid.out ?_)
      refine Lib.hid ?_
      have HW6 := Lib.hid (show OwnI wr.heap.size ((w5.alloc (.cells #[.slice p9 xw.length c9, .int .i64 xb] 27)).alloc (.cells #[.slice p9 xw.length c9, .int .i64 xb] 27)).heap.size ((w5.alloc (.cells #[.slice p9 xw.length c9, .int .i64 xb] 27)).alloc (.cells #[.slice p9 xw.length c9, .int .i64 xb] 27)) (.slice p9 xw.length c9) xw from HW9.out.mono (Nat.le_refl _) (by rw [hz6]; omega))
      have hn7 : ∀ g, wr.heap.size ≤ g → ¬ some g = u6.ownBlock := fun g hg e => by have h1 := HVL.out g e.symm; omega
      have hs7 := hgrow7.size
      have hb7 : ∀ g, g < w5.heap.size + 2 → ¬ some g = u6.ownBlock → w7.heap[g]? = ((w5.alloc (.cells #[.slice p9 xw.length c9, .int .i64 xb] 27)).alloc (.cells #[.slice p9 xw.length c9, .int .i64 xb] 27)).heap[g]? := fun g h1 h2 => hgrow7.block g (by omega) h2
      have HPU := Lib.hid (OwnK.push2 (b := xb) HK6.out hszr (by omega) HW6.out (by rw [hbl]; exact hown7) hgrow7)
      have HA7 := Lib.hid (HAV.out.push (v' := .slice (some ⟨gg, 0, none⟩) (k + 1) cap4) (c := .slice p9 xw.length c9) (by rw [HO.out.len, hbl]) (fun g hg => by
        have e2 : gg = g := by simpa [Value.ownBlock] using hg
        subst e2
        rcases hat7 with h3 | h3
        · exact HAV.out.1 gg h3
        · have h4 : gg = w5.heap.size + 1 + 1 := by simpa using h3
          omega) (fun g hg => by have h1 := HW9.out.lt hg; omega))
      have hgn : ¬ some gh = u6.ownBlock := fun e => HAV.out.1 gh e.symm rfl
      have HH7 := Lib.hid (show w7.ownsRow wE.heap.size 3 1 (.slice (some ⟨gh, 0, none⟩) rows.length cap) rows.length ((hs).map (Value.int .i64)) from ownsRow_block HHF.out (fun g hg => by
        have e2 : gh = g := by simpa [Value.ownBlock] using hg
        subst e2
        exact (hb7 gh (by omega) hgn).trans (HB6.out.block gh (by omega))))
      have P0 : w7.cell? ⟨w5.heap.size, 0, none⟩ = some (.slice p9 xw.length c9) := (World.cell?_of_block (hb7 w5.heap.size (by omega) (hn7 _ hs5))).trans HP06.out.1
      have P1 : w7.cell? ⟨w5.heap.size, 1, none⟩ = some (.int .i64 xb) := (World.cell?_of_block (hb7 w5.heap.size (by omega) (hn7 _ hs5))).trans HP06.out.2
      have hxn : ¬ some w.heap.size = u6.ownBlock := fun e => by have h1 := HVL.out _ e.symm; omega
      have x0_0 : w7.cell? ⟨w.heap.size, 0, none⟩ = some (.slice a rows.length c) := (World.cell?_of_block (hb7 w.heap.size (by omega) hxn)).trans HX06.out.1
      have x0_1 : w7.cell? ⟨w.heap.size, 1, none⟩ = some (.slice a' zs.length c') := (World.cell?_of_block (hb7 w.heap.size (by omega) hxn)).trans HX06.out.2
      have HR7 := Lib.hid (HW6.out.block (w' := w7) (fun g hg => hgrow7.block g (HW6.out.lt hg).2.2 (hn7 g (HW6.out.lt hg).1))).reads
      have HB7 := Lib.hid (show Below wb1.heap.size wb1 w7 from (HBl.out.trans (HB6.out.mono hszr)).grown hgrow7 (by omega) (fun g e => (HVL.out g e).1))
      clear hown7 hgrow7 hat7 hlt7 hb7 hn7 hgn hxn hlt6
      go_wp2_with fail
      refine (HC2.out w7 (HB0.out.trans (HB7.out.mono (by omega))) p9 c9 HR7.out).mono ?_
      rintro e9 w8 ⟨v8, rfl, ho8, hb8⟩
      obtain ⟨pm, qm, hv8, hrm, _, _⟩ := ho8.slice
      subst hv8
      have hs8 := hb8.size
      have HRM := Lib.hid hrm
      have HMG := Lib.hid (fun g (hg : (Value.slice pm ms.length qm).ownBlock = some g) => (show gh + 1 ≤ g by have h1 := (ho8.lt hg).1; omega))
      have HP8 := Lib.hid (HPU.out.below hb8)
      have HH8 := Lib.hid (show w8.ownsRow wE.heap.size 3 1 (.slice (some ⟨gh, 0, none⟩) rows.length cap) rows.length ((dblTo hs ms 0).map (Value.int .i64)) from ownsRow_block HH7.out (fun g hg => hb8.block g (HH7.out.lt g hg).2))
      have HB8 := Lib.hid (HB7.out.trans (hb8.mono (by omega)))
      clear ho8 hb8 hrm x0_0 x0_1 P0 P1
      go_wp2_with fail
      go_loopw [11] (fun i wj => ∃ j : Nat, j ≤ ms.length ∧ i = .int .i64 j ∧ wj.ownsRow wE.heap.size 3 1 (.slice (some ⟨gh, 0, none⟩) rows.length cap) rows.length ((dblTo hs ms j).map (Value.int .i64)) ∧ Only gh (gh + 1) w8 wj) (fun i _ => ms.length - (intOf i).toNat)
      case atStart => exact ⟨0, Nat.zero_le _, rfl, HH8.out, Only.refl _ _ _⟩
      case round =>
        obtain ⟨j, hj9, rfl, hhj, hon⟩ := hrel
        have hszj := hon.size
        have hml := HML.out
        by_cases hjt : j < ms.length
        · obtain ⟨mb, mo, hme, hmb, hmc⟩ := HRM.out.at hjt
          subst hme
          have hmg := HMG.out mb rfl
          replace hmc := hon.cell hmc hmb (by omega)
          obtain ⟨p, hpe, hpl⟩ := HMA.out j hjt
          rw [hpe] at hmc
          obtain ⟨hcell, hst⟩ := dbl_own (HDL.out j) hhj p hpl
          have hbd := HMB.out j (by omega) p
          have hfro := hhj.frozenAt p
          have HST := Lib.hid (show (wr.setCell ⟨gh, p, none⟩ (.int .i64 (2 * (dblTo hs ms j).getD p 0))).ownsRow wE.heap.size 3 1 (.slice (some ⟨gh, 0, none⟩) rows.length cap) rows.length ((dblTo hs ms (j + 1)).map (Value.int .i64)) from by
            show (wr.setCell ⟨gh, p, none⟩ (.int .i64 (2 * (dblTo hs ms j).getD p 0))).ownsRow wE.heap.size 3 1 (.slice (some ⟨gh, 0, none⟩) rows.length cap) rows.length ((dbl (dblTo hs ms j) (ms.getD j 0).toNat).map (Value.int .i64))
            rw [hpe]; exact hst)
          have HON2 := Lib.hid hon
          have e1 : IntKind.i64.wrap (2 * (dblTo hs ms j).getD p 0) = 2 * (dblTo hs ms j).getD p 0 := IntWalk.i64_in _ (by omega)
          have k1 : (0 : Int) ≤ (j : Int) := by omega
          have k2 : (j : Int) < (ms.length : Int) := by omega
          have k3 : (0 : Int) ≤ (p : Int) := by omega
          have k4 : (p : Int) < (rows.length : Int) := by omega
          clear hbd hst hpe hhj hon
          generalize (dblTo hs ms j).getD p 0 = y at *
          go_wp2_with fail
          go_still_tail 14, (by kernel_rfl)
          go_wp2_with fail
          go_roundw
          case rel => exact ⟨j + 1, by omega, by go_num, HST.out, Only.drew' (Only.set HON2.out (Nat.le_refl _) (Nat.lt_succ_self _) _)⟩
          case measure => simp [intOf]; omega
        · obtain rfl : j = ms.length := by omega
          have hB9 : Below wb1.heap.size wb1 wr := HB8.out.trans ((hon.below (by omega)).mono (by omega))
          have HR9 := Lib.hid (show OwnK wb1.heap.size wr.heap.size wr (.slice (some ⟨gg, 0, none⟩) (k + 1) cap4) (bsTo rows zs (k + 1)) (cs ++ [.slice p9 xw.length c9]) from by
            rw [HSN.out]
            exact OwnK.shift HP8.out hon (by rw [List.length_append, hbl]; exact HA7.out) (by omega))
          have HR8 := Lib.hid (show wr.ownsRow wE.heap.size 3 1 (.slice (some ⟨gh, 0, none⟩) rows.length cap) rows.length ((hfTo rows zs (k + 1)).map (Value.int .i64)) from by rw [HHN.out]; exact hhj)
          have HB9 := Lib.hid hB9
          clear hhj hon hB9
          go_wp2_with fail
          go_roundw
          case rel => exact ⟨k + 1, _, by omega, by go_num, HR9.out, HA7.out, HR8.out, HB9.out, by omega⟩
          case measure => simp [intOf]; omega
    · obtain rfl : k = R := by omega
      have HT := Lib.hid (show TwoOf w.heap.size wr.heap.size wr u6 (.slice (some ⟨gh, 0, none⟩) rows.length cap) (bsTo rows zs k) (hfTo rows zs k) from ⟨gh, cs, rfl, (OwnI.of (by rw [hfTo_length]; exact hhf)).mono (by omega) (Nat.le_refl _), OwnK.mono' hown (by omega) (Nat.le_refl _), by rw [bsTo_length]; exact hav⟩)
      have HB9 := Lib.hid (HB0.out.trans (hbel.mono (by omega)))
      clear hown hav hhf hbel
      go_wp2_with fail
      go_ret2
      exact ⟨_, _, rfl, HT.out, HB9.out⟩
end Go.Proofs.Ythohnnobahcdpaa.boosts
