/- The walk of the model's traces of a class. -/
import Derived.Test.YtncidajjeccbkaaTraceP
import Derived.Test.YtncidajjeccbkaaAtW
import Derived.Test.YtncidajjeccbkaaSetsN
import Derived.Test.YtncidajjeccbkaaPut0
namespace Go.Proofs.Ytncidajjeccbkaa.traces
open Go.RowKit own pp nums bitn setcmp setord cls classt atw rising tracep put0
set_option linter.unusedVariables false
attribute [local go_sem ↓] Go.wp_at_zero Go.wp_at_succ
set_option linter.unusedSimpArgs false

set_option maxRecDepth 100000 in
set_option maxHeartbeats 4000000 in
theorem spec_traces (a : Option Addr) (cla : List (List Int)) (c : Nat) (a1 : Option Addr) (set : List Int) (c1 : Nat) (w : World) (hr : grid.Reads w a cla) (hq : ints.Reads .i64 w a1 set) {m : Nat} (hC : Cls cla m) (hin : Inside m set) (h8 : set.length ≤ 8) :
    Calls Try.prog 60 #[.slice a cla.length c, .slice a1 set.length c1] w (MadeG (trTo cla set cla.length) w) := by
  obtain ⟨i0, hi, hz0, hz1, hz2⟩ := info_parts infoSl
  have HR := Lib.hid hr
  have HQ := Lib.hid hq
  have HIN := Lib.hid hin
  have HLEN := Lib.hid (fun i (hi : i < cla.length) => hC.len i hi)
  have h256 := hC.top
  have hm8 := hC.m8
  have HTS := Lib.hid (fun k => show trTo cla set (k + 1) = trS (trTo cla set k) (atL (cla.getD k []) set) from rfl)
  have HTL := Lib.hid (fun k => tr_length cla set k)
  have HTM := Lib.hid (fun k (r : List Int) (h : r ∈ trTo cla set k) => show r.length = set.length from by obtain ⟨i, _, e⟩ := (tr_mem cla set r k).1 h; rw [e, at_length])
  clear hr hq hC hin
  go_enter Try.func60, Try.ntmps60
  go_wp2_with fail
  have hown0 := World.ownsRow_made (base := w.heap.size) (e := 30) (size := 1) w #[] 0 (Nat.le_refl _) (by unfold maxLen; omega) rfl
  have hb0 := below_alloc w (.cells #[] 30)
  go_loopw [5, 6] (fun v z wr => ∃ (k gl cp : Nat) (cs : List Value), k ≤ cla.length ∧ z = .int .i64 k ∧ v = .slice (some ⟨gl, 0, none⟩) (trTo cla set k).length cp ∧ wr.ownsRow w.heap.size 30 1 (.slice (some ⟨gl, 0, none⟩) (trTo cla set k).length cp) (trTo cla set k).length cs ∧ RowsOf w.heap.size wr.heap.size wr cs (trTo cla set k) ∧ Below w.heap.size w wr) (fun _ z _ => cla.length - (intOf z).toNat)
  case atStart => exact ⟨0, _, 0, [], Nat.zero_le _, rfl, rfl, hown0, RowsOf.nil _ _ _, hb0⟩
  case round =>
    obtain ⟨k, gl, cp, cs, hk, rfl, rfl, hown, hro, hbel⟩ := hrel
    clear hown0 hb0
    by_cases hlt : k < cla.length
    · obtain ⟨b, off, p, q, rfl, hb, hc, hpq, hrow⟩ := (HR.out.below hbel).at hlt
      have hlr := HLEN.out k hlt
      have HA := Lib.hid (spec_at p (cla.getD k []) q a1 set c1 wr hrow (HQ.out.below hbel) (by omega) (by omega) (by rw [hlr]; exact HIN.out))
      have HSk := Lib.hid (HTS.out k)
      have HMk := Lib.hid (HTM.out k)
      have hl256 := HTL.out k
      have HAL := Lib.hid (at_length (cla.getD k []) set)
      have HO0 := Lib.hid hown
      have HR0 := Lib.hid hro
      have HBl := Lib.hid hbel
      have hszr := hbel.size
      have i1 : (0 : Int) ≤ (k : Int) := by omega
      have i2 : (k : Int) < (cla.length : Int) := by omega
      clear hown hro hbel hrow hpq hlr
      generalize trTo cla set k = rows at *
      generalize atL (cla.getD k []) set = s at *
      generalize cla.getD k [] = r at *
      go_wp2_with fail
      refine HA.out.mono ?_
      rintro e w2 ⟨v, rfl, ho2, hb2⟩
      obtain ⟨sa, sc, rfl, hsr, _, _⟩ := ho2.slice
      have hr2 := HR0.out.below hb2
      have ho := ownsRow_block HO0.out (fun g e => hb2.block g (HO0.out.lt g e).2)
      have HONE := Lib.hid (rows_one hr2)
      have HCLN := Lib.hid (show cs.length = rows.length from hr2.1)
      have HSN := Lib.hid (hr2.snoc ho2 hszr hb2.size)
      have hgl2 : gl < w2.heap.size := (ho.lt gl rfl).2
      have hcap : rows.length ≤ cp := by
        rcases ho.2 with ⟨e, _⟩ | ⟨g, cap, cur, e, _, _, h1, _⟩
        · cases e
        · cases e; exact h1
      have HCL2 := Lib.hid (show ∀ j u, cs[j]? = some u → w2.cell? ⟨gl, j, none⟩ = some u from fun j u hj => by rw [ho.cellAt j (by have := (List.getElem?_eq_some_iff.1 hj).1; have := HCLN.out; omega)]; exact hj)
      have HROW := Lib.hid (show ∀ k, k < rows.length → ∃ ra rc, cs[k]? = some (.slice ra (rows.getD k []).length rc) ∧ ints.Reads .i64 w2 ra (rows.getD k []) ∧ (rows.getD k []).length = set.length from fun k hk => by
        obtain ⟨ra, rc, e, _, _, _⟩ := (hr2.2.1 k hk).slice
        have e2 : cs[k]? = some (cs.getD k undef) := by rw [List.getD_eq_getElem?_getD, List.getElem?_eq_getElem (by have := HCLN.out; omega)]; rfl
        refine ⟨ra, rc, by rw [e2, e], ?_, HMk.out _ (getD_mem rows [] k hk)⟩
        have := hr2.2.1 k hk
        rw [e] at this
        exact this.reads)
      have HSR := Lib.hid hsr
      have HW2 := Lib.hid (HBl.out.trans (hb2.mono hszr))
      have HOW := Lib.hid ho
      have HRW := Lib.hid hr2
      have hsz2 := hb2.size
      clear ho2 hb2 hr2 ho hsr HA hc
      have HKL := Lib.hid (kD_le rows s rows.length)
      have HTK := Lib.hid (show trS rows s = if kD rows s rows.length = 0 ∨ befC (rows.getD (kD rows s rows.length - 1) []) s = true then insAt rows (kD rows s rows.length) s else rows from rfl)
      obtain ⟨K, hK⟩ : ∃ K, kD rows s rows.length = K := ⟨_, rfl⟩
      have HK := Lib.hid hK
      rw [hK] at HTK
      clear hK
      have hll : rows.length ≤ 256 := by omega
      go_wp2_with fail
      go_loopw [8] (fun z wq => ∃ kk m : Nat, kk ≤ rows.length ∧ z = .int .i64 kk ∧ Hid (kD rows s kk = K) ∧ wq = w2.drewN m) (fun z _ => (intOf z).toNat)
      case atStart => exact ⟨rows.length, 0, Nat.le_refl _, rfl, HK, rfl⟩
      case round =>
        clear HK
        obtain ⟨kk, m, hkr, rfl, HK, rfl⟩ := hrel
        have HBM2 := Lib.hid (fun n => show Below w2.heap.size w2 ((w2.drewN m).drewN n) from ints.below_drewN (ints.below_drewN (Below.refl _ _) m) n)
        have HMM := Lib.hid (show ∀ n, ∃ q, (w2.drewN m).drewN n = w2.drewN q from fun n => ⟨_, World.drewN_drewN _ _ _⟩)
        have HMD := Lib.hid (show Below w2.heap.size w2 (w2.drewN m) from ints.below_drewN (Below.refl _ _) m)
        generalize w2.drewN m = wx at *
        have hszx := HMD.out.size
        by_cases hk0 : 0 < kk
        · obtain ⟨j, rfl⟩ : ∃ j, kk = j + 1 := ⟨kk - 1, by omega⟩
          obtain ⟨ra, rc, hck, hrd, hrl⟩ := HROW.out j (by omega)
          have hcell := cell_below HMD.out (HCL2.out j _ hck) hgl2
          have hsl := HAL.out
          have HB1 := Lib.hid (fun (ok : Bool) (h : Hid (befC s (rows.getD j []) = ok)) => classs.spec_before sa s sc ra (rows.getD j []) rc wx (HSR.out.below HMD.out) (hrd.below HMD.out) (by omega) (Lib.hid (hsl.trans hrl.symm)) ok h)
          have HB2 := Lib.hid (fun (ok : Bool) (h : Hid (befC (rows.getD j []) s = ok)) (n : Nat) => classs.spec_before ra (rows.getD j []) rc sa s sc (wx.drewN n) (hrd.below (HBM2.out n)) (HSR.out.below (HBM2.out n)) (by omega) (Lib.hid (hrl.trans hsl.symm)) ok h)
          have HD := Lib.hid (show kD rows s (j + 1) = if befC s (rows.getD j []) = true then kD rows s j else j + 1 from rfl)
          have j1 : decide ((0 : Int) < (j : Int) + 1) = true := decide_eq_true (by omega)
          have j2 : (j : Int) < (rows.length : Int) := by omega
          have j3 : (0 : Int) ≤ (j : Int) := by omega
          have iw : IntKind.i64.wrap (j : Int) = (j : Int) := IntWalk.i64_in _ (by omega)
          cases hb1 : befC s (rows.getD j [])
          · have HF1 := Lib.hid (HB1.out false (Lib.hid hb1))
            have hKj : K = j + 1 := by have h7 := HK.out; rw [HD.out, hb1] at h7; exact h7.symm
            have hcells := fun n => cell_below (HBM2.out n) (HCL2.out j _ hck) hgl2
            cases hb2 : befC (rows.getD j []) s
            · have HF2 := Lib.hid (HB2.out false (Lib.hid hb2))
              have HTR := Lib.hid (show trTo cla set (k + 1) = rows from by
                rw [HSk.out, HTK.out, hKj, Nat.add_sub_cancel, hb2, if_neg (by simp)])
              have g5 : ((j : Int) + 1 == 0) = false := by rw [beq_eq_false_iff_ne]; omega
              clear hb1 hb2 hKj HB1 HB2 HD hrd hck hrl hsl
              generalize rows.getD j [] = row at *
              go_wp2_with fail
              refine HF1.out.mono ?_
              rintro e w' ⟨rfl, m2, rfl⟩
              have hcm := hcells m2
              have HF3 := Lib.hid (HF2.out m2)
              have HBm := Lib.hid (HBM2.out m2)
              generalize wx.drewN m2 = wy at *
              clear hcell HF2
              go_wp2_with fail
              refine HF3.out.mono ?_
              rintro e w' ⟨rfl, m3, rfl⟩
              have HBz := Lib.hid (ints.below_drewN HBm.out m3)
              generalize wy.drewN m3 = wz at *
              have HFN := Lib.hid (ownsRow_block HOW.out (fun g e => HBz.out.block g (HOW.out.lt g e).2))
              have HRN := Lib.hid ((HRW.out.below HBz.out).mono (Nat.le_refl _) (Nat.le_trans hsz2 HBz.out.size))
              have HBN := Lib.hid (HW2.out.trans (HBz.out.mono HW2.out.size))
              go_wp2_with fail
              go_roundw
              case rel => exact ⟨k + 1, gl, cp, cs, by omega, by go_num, by rw [HTR.out], by rw [HTR.out]; exact HFN.out, by rw [HTR.out]; exact HRN.out, HBN.out⟩
              case measure => simp [intOf]; omega
            · have HF2 := Lib.hid (HB2.out true (Lib.hid hb2))
              obtain ⟨kk, hkk⟩ : ∃ kk, kk = j + 1 := ⟨_, rfl⟩
              have HTR := Lib.hid (show trTo cla set (k + 1) = insAt rows kk s from by
                rw [HSk.out, HTK.out, hKj, Nat.add_sub_cancel, hb2, if_pos (.inr rfl), hkk])
              have hkl : kk ≤ rows.length := by omega
              have hks : ((j : Int) + 1) = (kk : Int) := by omega
              have g5 : ((j : Int) + 1 == 0) = false := by rw [beq_eq_false_iff_ne]; omega
              have HKS := Lib.hid hks
              clear hb1 hb2 hKj HB1 HB2 HD hrd hck hrl hsl hks
              have hk1j : j + 1 ≤ cp := by omega
              have HKK := Lib.hid hkk
              clear hkk
              generalize rows.getD j [] = row at *
              go_wp2_with fail
              refine HF1.out.mono ?_
              rintro e w' ⟨rfl, m2, rfl⟩
              have hcm := hcells m2
              have HF3 := Lib.hid (HF2.out m2)
              have HBm := Lib.hid (HBM2.out m2)
              generalize wx.drewN m2 = wy at *
              clear hcell HF2
              go_wp2_with fail
              refine HF3.out.mono ?_
              rintro e w' ⟨rfl, m3, rfl⟩
              have HBz := Lib.hid (ints.below_drewN HBm.out m3)
              generalize wy.drewN m3 = wm at *
              have HSN := Lib.hid (HSN.out.below HBz.out)
              have HCL := Lib.hid (show ∀ j u, cs[j]? = some u → wm.cell? ⟨gl, j, none⟩ = some u from fun j u hj => cell_below HBz.out (HCL2.out j u hj) hgl2)
              have hgl : gl < wm.heap.size := Nat.lt_of_lt_of_le hgl2 HBz.out.size
              have HBM := Lib.hid (Below.refl wm.heap.size wm)
              have HWZ := Lib.hid (HW2.out.trans (HBz.out.mono HW2.out.size))
              have hcl : cs.length = rows.length := HCLN.out
              clear hcm HF1 HF3 HBm HBM2 HMM HMD HCL2 hcells
              rw [HKS.out]
              have k1 : (0 : Int) ≤ (kk : Int) := by omega
              clear g5 j1 j2 j3 iw hk1j
              by_cases hk2 : cp = kk
              · have hk1 : kk ≤ cp := by omega
                have HKN := Lib.hid (show kk = rows.length by omega)
                have HCK := Lib.hid hk2
                obtain ⟨cq, hcq⟩ : ∃ cq : Nat, cq = cp := ⟨_, rfl⟩
                go_wp2_with fail
                refine wp_region_noPanic ?_
                refine wp_region_held_drew (S := fun w' => True) (by kernel_rfl) ?_ (fun hHeld => ?_)
                · exact trivial
                have hb : Below wm.heap.size wm wm.drew := (Below.refl _ _).drew
                generalize hwn : wm.drew = v11 at *
                clear hwn
                have sz11 : wm.heap.size ≤ v11.heap.size := hb.size
                have HBh11 := Lib.hid (HBM.out.trans (hb.mono (by have := HBM.out.size; omega)))
                clear hb
                refine wpAnyH_take (i := 1) (v := ?_) rfl (by kernel_rfl) (by kernel_rfl) (by kernel_rfl) (fun _ _ _ h => h) (Or.inl ⟨by rfl, ?_⟩) (by assumption) ?_
                rotate_left
                · intro w9 hSw; (try dsimp only at hSw); go_simp; try with_reducible rfl
                try simp only [List.getElem_toArray, List.getElem_cons_succ, List.getElem_cons_zero, Act.put, List.setIfInBounds_toArray, List.set_cons_zero, List.set_cons_succ]
                refine wpAnyH_take (i := 2) (v := ?_) rfl (by kernel_rfl) (by kernel_rfl) (by kernel_rfl) (fun _ _ _ h => h) (Or.inl ⟨by rfl, ?_⟩) (by assumption) ?_
                rotate_left
                · intro w9 hSw; (try dsimp only at hSw); go_simp; try with_reducible rfl
                try simp only [List.getElem_toArray, List.getElem_cons_succ, List.getElem_cons_zero, Act.put, List.setIfInBounds_toArray, List.set_cons_zero, List.set_cons_succ]
                refine wpAnyH_take (i := 3) (v := ?_) rfl (by kernel_rfl) (by kernel_rfl) (by kernel_rfl) (fun _ _ _ h => h) (Or.inl ⟨by rfl, ?_⟩) (by assumption) ?_
                rotate_left
                · intro w9 hSw; (try dsimp only at hSw); go_simp; try with_reducible rfl
                try simp only [List.getElem_toArray, List.getElem_cons_succ, List.getElem_cons_zero, Act.put, List.setIfInBounds_toArray, List.set_cons_zero, List.set_cons_succ]
                refine wpAnyH_take (i := 5) (v := ?_) rfl (by kernel_rfl) (by kernel_rfl) (by kernel_rfl) (fun _ _ _ h => h) (Or.inl ⟨by rfl, ?_⟩) (by assumption) ?_
                rotate_left
                · intro w9 hSw; (try dsimp only at hSw); go_simp; try with_reducible rfl
                try simp only [List.getElem_toArray, List.getElem_cons_succ, List.getElem_cons_zero, Act.put, List.setIfInBounds_toArray, List.set_cons_zero, List.set_cons_succ]
                refine wpAnyH_take (i := 8) (v := ?_) rfl (by kernel_rfl) (by kernel_rfl) (by kernel_rfl) (fun _ _ _ h => h) (Or.inl ⟨by rfl, ?_⟩) (by assumption) ?_
                rotate_left
                · intro w9 hSw; (try dsimp only at hSw); go_simp; try with_reducible rfl
                try simp only [List.getElem_toArray, List.getElem_cons_succ, List.getElem_cons_zero, Act.put, List.setIfInBounds_toArray, List.set_cons_zero, List.set_cons_succ]
                refine wpAnyH_take (i := 9) (v := ?_) rfl (by kernel_rfl) (by kernel_rfl) (by kernel_rfl) (fun _ _ _ h => h) (Or.inl ⟨by rfl, ?_⟩) (by assumption) ?_
                rotate_left
                · intro w9 hSw; (try dsimp only at hSw); go_simp; try with_reducible rfl
                try simp only [List.getElem_toArray, List.getElem_cons_succ, List.getElem_cons_zero, Act.put, List.setIfInBounds_toArray, List.set_cons_zero, List.set_cons_succ]
                refine wpAnyH_take (i := 10) (v := ?_) rfl (by kernel_rfl) (by kernel_rfl) (by kernel_rfl) (fun _ _ _ h => h) (Or.inl ⟨by rfl, ?_⟩) (by assumption) ?_
                rotate_left
                · intro w9 hSw; (try dsimp only at hSw); go_simp; try with_reducible rfl
                try simp only [List.getElem_toArray, List.getElem_cons_succ, List.getElem_cons_zero, Act.put, List.setIfInBounds_toArray, List.set_cons_zero, List.set_cons_succ]
                refine wpAnyH_ready (rs := [0, 6]) (by kernel_rfl) (by simp) ?_
                refine AllReadyH.cons rfl (fun K hK => ?_) ?_
                · skip
                  clear hHeld
                  go_simp
                  have ho0 : (v11.alloc (.cells #[] 30)).ownsRow wm.heap.size 30 1 (.slice (some ⟨v11.heap.size, 0, none⟩) 0 0) 0 [] := World.ownsRow_made (base := wm.heap.size) (e := 30) (size := 1) v11 #[] 0 (by have := HBh11.out.size; omega) (by unfold maxLen; omega) rfl
                  have hb := below_alloc v11 (.cells #[] 30)
                  have lt_v0 := size_alloc' v11 (.cells #[] 30)
                  obtain ⟨B0, hB0⟩ : ∃ B0 : Nat, B0 = v11.heap.size := ⟨_, rfl⟩
                  rw [← hB0] at ho0 ⊢
                  have hB0l : B0 ≤ v11.heap.size ∧ v11.heap.size ≤ B0 := by omega
                  clear hB0
                  generalize hwn : v11.alloc (.cells #[] 30) = v12 at *
                  clear hwn
                  have sz12 : v11.heap.size ≤ v12.heap.size := hb.size
                  have HBh12 := Lib.hid (HBh11.out.trans (hb.mono (by have := HBh11.out.size; omega)))
                  clear hb
                  have HO0 := Lib.hid ho0
                  clear ho0
                  refine hK.out _ _ ?_ (fun hHeld => ?_)
                  · exact trivial
                  clear hK K
                  try simp only [List.getElem_toArray, List.getElem_cons_succ, List.getElem_cons_zero, Act.put, List.setIfInBounds_toArray, List.set_cons_zero, List.set_cons_succ]
                  refine wpAnyH_ready (rs := [4, 6]) (by kernel_rfl) (by simp) ?_
                  refine AllReadyH.cons rfl (fun K hK => ?_) ?_
                  · skip
                    clear hHeld
                    refine step_append_any rfl _ _ 22 rfl wm.heap.size 30 i0 (.slice none 0 0) 1 24 Try.underlying22 hi hz0 hz1 hz2 rfl (by decide) (Value.slice (some ⟨B0, 0, none⟩) 0 0) (0) ([]) (by rfl) HO0.out ⟨gl, 0, none⟩ kk kk (cs.take kk) (by rfl) (by rw [List.length_take]; omega) (fun j u hj => by rw [Go.WideShapes.add_plain, Nat.zero_add]; exact cell_below HBh12.out (HCL.out j u (take_some hj)) hgl) (fun u hu => HONE.out u (List.mem_of_mem_take hu)) (by unfold maxLen; omega) (by omega) (by have := HBh12.out.size; omega) ?_
                    intro u1 v13 hown1 hg hat1
                    have hrow : ∀ g, (Value.slice (some ⟨B0, 0, none⟩) 0 0).ownBlock = some g → wm.heap.size ≤ g := fun g e => (HO0.out.lt g e).1
                    have sz13 : v12.heap.size ≤ v13.heap.size := hg.size
                    have HBh13 := Lib.hid (HBh12.out.grown hg (by have := HBh12.out.size; omega) (fun g e => hrow g e))
                    have HO1 := Lib.hid hown1
                    clear hown1 hg hat1 hrow
                    refine hK.out _ _ ?_ (fun hHeld => ?_)
                    · exact trivial
                    clear hK K
                    try simp only [List.getElem_toArray, List.getElem_cons_succ, List.getElem_cons_zero, Act.put, List.setIfInBounds_toArray, List.set_cons_zero, List.set_cons_succ]
                    refine wpAnyH_ready (rs := [6]) (by kernel_rfl) (by simp) ?_
                    refine AllReadyH.cons rfl (fun K hK => ?_) AllReadyH.nil
                    clear hHeld
                    go_simp
                    have nx_0 : (v13.alloc (.cells #[.slice sa s.length sc] 30)).cell? ⟨v13.heap.size, 0, none⟩ = some (.slice sa s.length sc) := cell_new _ _ _ rfl rfl
                    have HNE1 := Lib.hid (show ∀ g, u1.ownBlock = some g → g ≠ v13.heap.size from fun g e => by have := (HO1.out.lt g e).2; omega)
                    replace HO1 := Lib.hid (HO1.out.alloc (.cells #[.slice sa s.length sc] 30))
                    have hb := below_alloc v13 (.cells #[.slice sa s.length sc] 30)
                    have lt_nx := size_alloc' v13 (.cells #[.slice sa s.length sc] 30)
                    obtain ⟨BN, hBN⟩ : ∃ BN : Nat, BN = v13.heap.size := ⟨_, rfl⟩
                    rw [← hBN] at nx_0 HNE1 ⊢
                    have hBNl : BN ≤ v13.heap.size ∧ v13.heap.size ≤ BN := by omega
                    clear hBN
                    generalize hwn : v13.alloc (.cells #[.slice sa s.length sc] 30) = v14 at *
                    clear hwn
                    have sz14 : v13.heap.size ≤ v14.heap.size := hb.size
                    have HBh14 := Lib.hid (HBh13.out.trans (hb.mono (by have := HBh13.out.size; omega)))
                    clear hb
                    refine hK.out _ _ ?_ (fun hHeld => ?_)
                    · exact trivial
                    clear hK K
                    try simp only [List.getElem_toArray, List.getElem_cons_succ, List.getElem_cons_zero, Act.put, List.setIfInBounds_toArray, List.set_cons_zero, List.set_cons_succ]
                    refine wpAnyH_ready (rs := [7]) (by kernel_rfl) (by simp) ?_
                    refine AllReadyH.cons rfl (fun K hK => ?_) AllReadyH.nil
                    clear hHeld
                    refine step_append_any rfl _ _ 22 rfl wm.heap.size 30 i0 (.slice none 0 0) 1 24 Try.underlying22 hi hz0 hz1 hz2 rfl (by decide) u1 (0 + kk) ([] ++ (cs.take kk)) (by rfl) HO1.out ⟨BN, 0, none⟩ 1 1 [.slice sa s.length sc] (by rfl) (by rfl) (fun j u hj => by (have h7 : j = 0 := by (have := (List.getElem?_eq_some_iff.1 hj).1; simp at this; exact this)); subst h7; simp at hj; subst hj; simpa [Addr.add] using nx_0) (by simp [Value.oneCell']) (by unfold maxLen; omega) (by omega) (by have := HBh14.out.size; omega) ?_
                    intro u2 v15 hown2 hg hat2
                    have nx_00 := nx_0
                    have hnb : ∀ g, u1.ownBlock = some g → BN ≠ g := fun g e => Ne.symm (HNE1.out g e)
                    have hrow : ∀ g, u1.ownBlock = some g → wm.heap.size ≤ g := fun g e => (HO1.out.lt g e).1
                    have sz15 : v14.heap.size ≤ v15.heap.size := hg.size
                    replace nx_0 := cell_grow hg nx_0 (fun g e => hnb g e)
                    have HBh15 := Lib.hid (HBh14.out.grown hg (by have := HBh14.out.size; omega) (fun g e => hrow g e))
                    have HO2 := Lib.hid hown2
                    have HNE2 := Lib.hid (show ∀ g, u2.ownBlock = some g → g ≠ BN from fun g e => by (rcases hat2 with e2 | e2); (rw [e2] at e; exact HNE1.out g e); (have h7 : v14.heap.size = g := by (rw [e2] at e; simpa using e)); (have h8 := block_lt_of_cell (a := ⟨BN, 0, none⟩) nx_00); omega)
                    clear hown2 hg hat2 hrow hnb
                    clear nx_00
                    refine hK.out _ _ ?_ (fun hHeld => ?_)
                    · exact trivial
                    clear hK K
                    try simp only [List.getElem_toArray, List.getElem_cons_succ, List.getElem_cons_zero, Act.put, List.setIfInBounds_toArray, List.set_cons_zero, List.set_cons_succ]
                    refine wpAnyH_ready (rs := [11]) (by kernel_rfl) (by simp) ?_
                    refine AllReadyH.cons rfl (fun K hK => ?_) AllReadyH.nil
                    clear hHeld
                    refine step_append_any rfl _ _ 22 rfl wm.heap.size 30 i0 (.slice none 0 0) 1 24 Try.underlying22 hi hz0 hz1 hz2 rfl (by decide) u2 (0 + kk + 1) ([] ++ (cs.take kk) ++ [.slice sa s.length sc]) (by rfl) HO2.out ⟨gl, 0, none⟩ (rows.length - kk) 0 (cs.drop kk) (by rfl) (by rw [List.length_drop]; omega) (fun j u hj => by have h7 := (List.getElem?_eq_some_iff.1 hj).1; rw [List.length_drop] at h7; have := HKN.out; omega) (fun u hu => HONE.out u (List.mem_of_mem_drop hu)) (by unfold maxLen; omega) (by omega) (by have := HBh15.out.size; omega) ?_
                    intro u3 v16 hown3 hg hat3
                    have nx_00 := nx_0
                    have hnb : ∀ g, u2.ownBlock = some g → BN ≠ g := fun g e => Ne.symm (HNE2.out g e)
                    have hrow : ∀ g, u2.ownBlock = some g → wm.heap.size ≤ g := fun g e => (HO2.out.lt g e).1
                    have sz16 : v15.heap.size ≤ v16.heap.size := hg.size
                    replace nx_0 := cell_grow hg nx_0 (fun g e => hnb g e)
                    have HBh16 := Lib.hid (HBh15.out.grown hg (by have := HBh15.out.size; omega) (fun g e => hrow g e))
                    have HO3 := Lib.hid hown3
                    have HNE3 := Lib.hid (show ∀ g, u3.ownBlock = some g → g ≠ BN from fun g e => by (rcases hat3 with e2 | e2); (rw [e2] at e; exact HNE2.out g e); (have h7 : v15.heap.size = g := by (rw [e2] at e; simpa using e)); (have h8 := block_lt_of_cell (a := ⟨BN, 0, none⟩) nx_00); omega)
                    clear hown3 hg hat3 hrow hnb
                    clear nx_00
                    refine hK.out _ _ ?_ (fun hHeld => ?_)
                    · exact trivial
                    clear hK K
                    try simp only [List.getElem_toArray, List.getElem_cons_succ, List.getElem_cons_zero, Act.put, List.setIfInBounds_toArray, List.set_cons_zero, List.set_cons_succ]
                    refine wpAnyH_take (i := 12) (v := ?_) rfl (by kernel_rfl) (by kernel_rfl) (by kernel_rfl) (fun _ _ _ h => h) (Or.inl ⟨by rfl, ?_⟩) (by assumption) ?_
                    rotate_left
                    · intro w9 hSw; (try dsimp only at hSw); go_simp; try with_reducible rfl
                    try simp only [List.getElem_toArray, List.getElem_cons_succ, List.getElem_cons_zero, Act.put, List.setIfInBounds_toArray, List.set_cons_zero, List.set_cons_succ]
                    refine wpAnyH_done (by kernel_rfl) ?_ _
                    refine NoPanic.normal ?_
                    clear hHeld
                    have hfin : v16.ownsRow wm.heap.size 30 1 u3 (rows.length + 1) (insAt cs kk (.slice sa s.length sc)) := by
                      have h7 := HO3.out
                      rw [show 0 + kk + 1 + (rows.length - kk) = rows.length + 1 by omega] at h7
                      simpa [insAt, List.append_assoc] using h7
                    obtain ⟨gn, cn, hun, hgn⟩ := setsn.own_form hfin (by omega)
                    subst hun
                    have hrn := (rows_ins ((HSN.out).below HBh16.out) HCLN.out kk (by rw [HCLN.out]; omega)).mono (Nat.le_refl _) (Nat.le_trans HBz.out.size HBh16.out.size)
                    have hfin2 := ownsRow_base (lo' := w.heap.size) hfin (fun g e => Nat.le_trans HWZ.out.size (hfin.lt g e).1)
                    have HFN := Lib.hid hfin2
                    have HRN := Lib.hid hrn
                    have HBN := Lib.hid (HWZ.out.trans (HBh16.out.mono HWZ.out.size))
                    clear hfin hfin2 hrn
                    go_wp2_with fail
                    go_roundw
                    case rel => exact ⟨k + 1, gn, cn, insAt cs kk (.slice sa s.length sc), by omega, by go_num, by rw [HTR.out, insAt_length _ _ _ (by omega)], by rw [HTR.out, insAt_length _ _ _ (by omega)]; exact HFN.out, by rw [HTR.out]; exact HRN.out, HBN.out⟩
                    case measure => simp [intOf]; omega
                  refine AllReadyH.cons rfl (fun K hK => ?_) AllReadyH.nil
                  clear hHeld
                  go_simp
                  have nx_0 : (v12.alloc (.cells #[.slice sa s.length sc] 30)).cell? ⟨v12.heap.size, 0, none⟩ = some (.slice sa s.length sc) := cell_new _ _ _ rfl rfl
                  have HNE0 := Lib.hid (show ∀ g, (Value.slice (some ⟨B0, 0, none⟩) 0 0).ownBlock = some g → g ≠ v12.heap.size from fun g e => by have := (HO0.out.lt g e).2; omega)
                  replace HO0 := Lib.hid (HO0.out.alloc (.cells #[.slice sa s.length sc] 30))
                  have hb := below_alloc v12 (.cells #[.slice sa s.length sc] 30)
                  have lt_nx := size_alloc' v12 (.cells #[.slice sa s.length sc] 30)
                  obtain ⟨BN, hBN⟩ : ∃ BN : Nat, BN = v12.heap.size := ⟨_, rfl⟩
                  rw [← hBN] at nx_0 HNE0 ⊢
                  have hBNl : BN ≤ v12.heap.size ∧ v12.heap.size ≤ BN := by omega
                  clear hBN
                  generalize hwn : v12.alloc (.cells #[.slice sa s.length sc] 30) = v13 at *
                  clear hwn
                  have sz13 : v12.heap.size ≤ v13.heap.size := hb.size
                  have HBh13 := Lib.hid (HBh12.out.trans (hb.mono (by have := HBh12.out.size; omega)))
                  clear hb
                  refine hK.out _ _ ?_ (fun hHeld => ?_)
                  · exact trivial
                  clear hK K
                  try simp only [List.getElem_toArray, List.getElem_cons_succ, List.getElem_cons_zero, Act.put, List.setIfInBounds_toArray, List.set_cons_zero, List.set_cons_succ]
                  refine wpAnyH_ready (rs := [4]) (by kernel_rfl) (by simp) ?_
                  refine AllReadyH.cons rfl (fun K hK => ?_) AllReadyH.nil
                  clear hHeld
                  refine step_append_any rfl _ _ 22 rfl wm.heap.size 30 i0 (.slice none 0 0) 1 24 Try.underlying22 hi hz0 hz1 hz2 rfl (by decide) (Value.slice (some ⟨B0, 0, none⟩) 0 0) (0) ([]) (by rfl) HO0.out ⟨gl, 0, none⟩ kk kk (cs.take kk) (by rfl) (by rw [List.length_take]; omega) (fun j u hj => by rw [Go.WideShapes.add_plain, Nat.zero_add]; exact cell_below HBh13.out (HCL.out j u (take_some hj)) hgl) (fun u hu => HONE.out u (List.mem_of_mem_take hu)) (by unfold maxLen; omega) (by omega) (by have := HBh13.out.size; omega) ?_
                  intro u1 v14 hown1 hg hat1
                  have nx_00 := nx_0
                  have hnb : ∀ g, (Value.slice (some ⟨B0, 0, none⟩) 0 0).ownBlock = some g → BN ≠ g := fun g e => Ne.symm (HNE0.out g e)
                  have hrow : ∀ g, (Value.slice (some ⟨B0, 0, none⟩) 0 0).ownBlock = some g → wm.heap.size ≤ g := fun g e => (HO0.out.lt g e).1
                  have sz14 : v13.heap.size ≤ v14.heap.size := hg.size
                  replace nx_0 := cell_grow hg nx_0 (fun g e => hnb g e)
                  have HBh14 := Lib.hid (HBh13.out.grown hg (by have := HBh13.out.size; omega) (fun g e => hrow g e))
                  have HO1 := Lib.hid hown1
                  have HNE1 := Lib.hid (show ∀ g, u1.ownBlock = some g → g ≠ BN from fun g e => by (rcases hat1 with e2 | e2); (rw [e2] at e; exact HNE0.out g e); (have h7 : v13.heap.size = g := by (rw [e2] at e; simpa using e)); (have h8 := block_lt_of_cell (a := ⟨BN, 0, none⟩) nx_00); omega)
                  clear hown1 hg hat1 hrow hnb
                  clear nx_00
                  refine hK.out _ _ ?_ (fun hHeld => ?_)
                  · exact trivial
                  clear hK K
                  try simp only [List.getElem_toArray, List.getElem_cons_succ, List.getElem_cons_zero, Act.put, List.setIfInBounds_toArray, List.set_cons_zero, List.set_cons_succ]
                  refine wpAnyH_ready (rs := [7]) (by kernel_rfl) (by simp) ?_
                  refine AllReadyH.cons rfl (fun K hK => ?_) AllReadyH.nil
                  clear hHeld
                  refine step_append_any rfl _ _ 22 rfl wm.heap.size 30 i0 (.slice none 0 0) 1 24 Try.underlying22 hi hz0 hz1 hz2 rfl (by decide) u1 (0 + kk) ([] ++ (cs.take kk)) (by rfl) HO1.out ⟨BN, 0, none⟩ 1 1 [.slice sa s.length sc] (by rfl) (by rfl) (fun j u hj => by (have h7 : j = 0 := by (have := (List.getElem?_eq_some_iff.1 hj).1; simp at this; exact this)); subst h7; simp at hj; subst hj; simpa [Addr.add] using nx_0) (by simp [Value.oneCell']) (by unfold maxLen; omega) (by omega) (by have := HBh14.out.size; omega) ?_
                  intro u2 v15 hown2 hg hat2
                  have nx_00 := nx_0
                  have hnb : ∀ g, u1.ownBlock = some g → BN ≠ g := fun g e => Ne.symm (HNE1.out g e)
                  have hrow : ∀ g, u1.ownBlock = some g → wm.heap.size ≤ g := fun g e => (HO1.out.lt g e).1
                  have sz15 : v14.heap.size ≤ v15.heap.size := hg.size
                  replace nx_0 := cell_grow hg nx_0 (fun g e => hnb g e)
                  have HBh15 := Lib.hid (HBh14.out.grown hg (by have := HBh14.out.size; omega) (fun g e => hrow g e))
                  have HO2 := Lib.hid hown2
                  have HNE2 := Lib.hid (show ∀ g, u2.ownBlock = some g → g ≠ BN from fun g e => by (rcases hat2 with e2 | e2); (rw [e2] at e; exact HNE1.out g e); (have h7 : v14.heap.size = g := by (rw [e2] at e; simpa using e)); (have h8 := block_lt_of_cell (a := ⟨BN, 0, none⟩) nx_00); omega)
                  clear hown2 hg hat2 hrow hnb
                  clear nx_00
                  refine hK.out _ _ ?_ (fun hHeld => ?_)
                  · exact trivial
                  clear hK K
                  try simp only [List.getElem_toArray, List.getElem_cons_succ, List.getElem_cons_zero, Act.put, List.setIfInBounds_toArray, List.set_cons_zero, List.set_cons_succ]
                  refine wpAnyH_ready (rs := [11]) (by kernel_rfl) (by simp) ?_
                  refine AllReadyH.cons rfl (fun K hK => ?_) AllReadyH.nil
                  clear hHeld
                  refine step_append_any rfl _ _ 22 rfl wm.heap.size 30 i0 (.slice none 0 0) 1 24 Try.underlying22 hi hz0 hz1 hz2 rfl (by decide) u2 (0 + kk + 1) ([] ++ (cs.take kk) ++ [.slice sa s.length sc]) (by rfl) HO2.out ⟨gl, 0, none⟩ (rows.length - kk) 0 (cs.drop kk) (by rfl) (by rw [List.length_drop]; omega) (fun j u hj => by have h7 := (List.getElem?_eq_some_iff.1 hj).1; rw [List.length_drop] at h7; have := HKN.out; omega) (fun u hu => HONE.out u (List.mem_of_mem_drop hu)) (by unfold maxLen; omega) (by omega) (by have := HBh15.out.size; omega) ?_
                  intro u3 v16 hown3 hg hat3
                  have nx_00 := nx_0
                  have hnb : ∀ g, u2.ownBlock = some g → BN ≠ g := fun g e => Ne.symm (HNE2.out g e)
                  have hrow : ∀ g, u2.ownBlock = some g → wm.heap.size ≤ g := fun g e => (HO2.out.lt g e).1
                  have sz16 : v15.heap.size ≤ v16.heap.size := hg.size
                  replace nx_0 := cell_grow hg nx_0 (fun g e => hnb g e)
                  have HBh16 := Lib.hid (HBh15.out.grown hg (by have := HBh15.out.size; omega) (fun g e => hrow g e))
                  have HO3 := Lib.hid hown3
                  have HNE3 := Lib.hid (show ∀ g, u3.ownBlock = some g → g ≠ BN from fun g e => by (rcases hat3 with e2 | e2); (rw [e2] at e; exact HNE2.out g e); (have h7 : v15.heap.size = g := by (rw [e2] at e; simpa using e)); (have h8 := block_lt_of_cell (a := ⟨BN, 0, none⟩) nx_00); omega)
                  clear hown3 hg hat3 hrow hnb
                  clear nx_00
                  refine hK.out _ _ ?_ (fun hHeld => ?_)
                  · exact trivial
                  clear hK K
                  try simp only [List.getElem_toArray, List.getElem_cons_succ, List.getElem_cons_zero, Act.put, List.setIfInBounds_toArray, List.set_cons_zero, List.set_cons_succ]
                  refine wpAnyH_take (i := 12) (v := ?_) rfl (by kernel_rfl) (by kernel_rfl) (by kernel_rfl) (fun _ _ _ h => h) (Or.inl ⟨by rfl, ?_⟩) (by assumption) ?_
                  rotate_left
                  · intro w9 hSw; (try dsimp only at hSw); go_simp; try with_reducible rfl
                  try simp only [List.getElem_toArray, List.getElem_cons_succ, List.getElem_cons_zero, Act.put, List.setIfInBounds_toArray, List.set_cons_zero, List.set_cons_succ]
                  refine wpAnyH_done (by kernel_rfl) ?_ _
                  refine NoPanic.normal ?_
                  clear hHeld
                  have hfin : v16.ownsRow wm.heap.size 30 1 u3 (rows.length + 1) (insAt cs kk (.slice sa s.length sc)) := by
                    have h7 := HO3.out
                    rw [show 0 + kk + 1 + (rows.length - kk) = rows.length + 1 by omega] at h7
                    simpa [insAt, List.append_assoc] using h7
                  obtain ⟨gn, cn, hun, hgn⟩ := setsn.own_form hfin (by omega)
                  subst hun
                  have hrn := (rows_ins ((HSN.out).below HBh16.out) HCLN.out kk (by rw [HCLN.out]; omega)).mono (Nat.le_refl _) (Nat.le_trans HBz.out.size HBh16.out.size)
                  have hfin2 := ownsRow_base (lo' := w.heap.size) hfin (fun g e => Nat.le_trans HWZ.out.size (hfin.lt g e).1)
                  have HFN := Lib.hid hfin2
                  have HRN := Lib.hid hrn
                  have HBN := Lib.hid (HWZ.out.trans (HBh16.out.mono HWZ.out.size))
                  clear hfin hfin2 hrn
                  go_wp2_with fail
                  go_roundw
                  case rel => exact ⟨k + 1, gn, cn, insAt cs kk (.slice sa s.length sc), by omega, by go_num, by rw [HTR.out, insAt_length _ _ _ (by omega)], by rw [HTR.out, insAt_length _ _ _ (by omega)]; exact HFN.out, by rw [HTR.out]; exact HRN.out, HBN.out⟩
                  case measure => simp [intOf]; omega
                refine AllReadyH.cons rfl (fun K hK => ?_) AllReadyH.nil
                clear hHeld
                go_simp
                have nx_0 : (v11.alloc (.cells #[.slice sa s.length sc] 30)).cell? ⟨v11.heap.size, 0, none⟩ = some (.slice sa s.length sc) := cell_new _ _ _ rfl rfl
                have hb := below_alloc v11 (.cells #[.slice sa s.length sc] 30)
                have lt_nx := size_alloc' v11 (.cells #[.slice sa s.length sc] 30)
                obtain ⟨BN, hBN⟩ : ∃ BN : Nat, BN = v11.heap.size := ⟨_, rfl⟩
                rw [← hBN] at nx_0  ⊢
                have hBNl : BN ≤ v11.heap.size ∧ v11.heap.size ≤ BN := by omega
                clear hBN
                generalize hwn : v11.alloc (.cells #[.slice sa s.length sc] 30) = v12 at *
                clear hwn
                have sz12 : v11.heap.size ≤ v12.heap.size := hb.size
                have HBh12 := Lib.hid (HBh11.out.trans (hb.mono (by have := HBh11.out.size; omega)))
                clear hb
                refine hK.out _ _ ?_ (fun hHeld => ?_)
                · exact trivial
                clear hK K
                try simp only [List.getElem_toArray, List.getElem_cons_succ, List.getElem_cons_zero, Act.put, List.setIfInBounds_toArray, List.set_cons_zero, List.set_cons_succ]
                refine wpAnyH_ready (rs := [0]) (by kernel_rfl) (by simp) ?_
                refine AllReadyH.cons rfl (fun K hK => ?_) AllReadyH.nil
                clear hHeld
                go_simp
                have ho0 : (v12.alloc (.cells #[] 30)).ownsRow wm.heap.size 30 1 (.slice (some ⟨v12.heap.size, 0, none⟩) 0 0) 0 [] := World.ownsRow_made (base := wm.heap.size) (e := 30) (size := 1) v12 #[] 0 (by have := HBh12.out.size; omega) (by unfold maxLen; omega) rfl
                have hb := below_alloc v12 (.cells #[] 30)
                have lt_v0 := size_alloc' v12 (.cells #[] 30)
                have hne0 : BN ≠ v12.heap.size := by omega
                obtain ⟨B0, hB0⟩ : ∃ B0 : Nat, B0 = v12.heap.size := ⟨_, rfl⟩
                rw [← hB0] at ho0 ⊢
                have hB0l : B0 ≤ v12.heap.size ∧ v12.heap.size ≤ B0 := by omega
                clear hB0
                generalize hwn : v12.alloc (.cells #[] 30) = v13 at *
                clear hwn
                have sz13 : v12.heap.size ≤ v13.heap.size := hb.size
                replace nx_0 := cell_keep hb nx_0
                have HBh13 := Lib.hid (HBh12.out.trans (hb.mono (by have := HBh12.out.size; omega)))
                clear hb
                have HO0 := Lib.hid ho0
                clear ho0
                have HNE0 := Lib.hid (show ∀ g, (Value.slice (some ⟨B0, 0, none⟩) 0 0).ownBlock = some g → g ≠ BN from fun g e => by (have e2 : B0 = g := by simpa [Value.ownBlock] using e); omega)
                refine hK.out _ _ ?_ (fun hHeld => ?_)
                · exact trivial
                clear hK K
                try simp only [List.getElem_toArray, List.getElem_cons_succ, List.getElem_cons_zero, Act.put, List.setIfInBounds_toArray, List.set_cons_zero, List.set_cons_succ]
                refine wpAnyH_ready (rs := [4]) (by kernel_rfl) (by simp) ?_
                refine AllReadyH.cons rfl (fun K hK => ?_) AllReadyH.nil
                clear hHeld
                refine step_append_any rfl _ _ 22 rfl wm.heap.size 30 i0 (.slice none 0 0) 1 24 Try.underlying22 hi hz0 hz1 hz2 rfl (by decide) (Value.slice (some ⟨B0, 0, none⟩) 0 0) (0) ([]) (by rfl) HO0.out ⟨gl, 0, none⟩ kk kk (cs.take kk) (by rfl) (by rw [List.length_take]; omega) (fun j u hj => by rw [Go.WideShapes.add_plain, Nat.zero_add]; exact cell_below HBh13.out (HCL.out j u (take_some hj)) hgl) (fun u hu => HONE.out u (List.mem_of_mem_take hu)) (by unfold maxLen; omega) (by omega) (by have := HBh13.out.size; omega) ?_
                intro u1 v14 hown1 hg hat1
                have nx_00 := nx_0
                have hnb : ∀ g, (Value.slice (some ⟨B0, 0, none⟩) 0 0).ownBlock = some g → BN ≠ g := fun g e => Ne.symm (HNE0.out g e)
                have hrow : ∀ g, (Value.slice (some ⟨B0, 0, none⟩) 0 0).ownBlock = some g → wm.heap.size ≤ g := fun g e => (HO0.out.lt g e).1
                have sz14 : v13.heap.size ≤ v14.heap.size := hg.size
                replace nx_0 := cell_grow hg nx_0 (fun g e => hnb g e)
                have HBh14 := Lib.hid (HBh13.out.grown hg (by have := HBh13.out.size; omega) (fun g e => hrow g e))
                have HO1 := Lib.hid hown1
                have HNE1 := Lib.hid (show ∀ g, u1.ownBlock = some g → g ≠ BN from fun g e => by (rcases hat1 with e2 | e2); (rw [e2] at e; exact HNE0.out g e); (have h7 : v13.heap.size = g := by (rw [e2] at e; simpa using e)); (have h8 := block_lt_of_cell (a := ⟨BN, 0, none⟩) nx_00); omega)
                clear hown1 hg hat1 hrow hnb
                clear nx_00
                refine hK.out _ _ ?_ (fun hHeld => ?_)
                · exact trivial
                clear hK K
                try simp only [List.getElem_toArray, List.getElem_cons_succ, List.getElem_cons_zero, Act.put, List.setIfInBounds_toArray, List.set_cons_zero, List.set_cons_succ]
                refine wpAnyH_ready (rs := [7]) (by kernel_rfl) (by simp) ?_
                refine AllReadyH.cons rfl (fun K hK => ?_) AllReadyH.nil
                clear hHeld
                refine step_append_any rfl _ _ 22 rfl wm.heap.size 30 i0 (.slice none 0 0) 1 24 Try.underlying22 hi hz0 hz1 hz2 rfl (by decide) u1 (0 + kk) ([] ++ (cs.take kk)) (by rfl) HO1.out ⟨BN, 0, none⟩ 1 1 [.slice sa s.length sc] (by rfl) (by rfl) (fun j u hj => by (have h7 : j = 0 := by (have := (List.getElem?_eq_some_iff.1 hj).1; simp at this; exact this)); subst h7; simp at hj; subst hj; simpa [Addr.add] using nx_0) (by simp [Value.oneCell']) (by unfold maxLen; omega) (by omega) (by have := HBh14.out.size; omega) ?_
                intro u2 v15 hown2 hg hat2
                have nx_00 := nx_0
                have hnb : ∀ g, u1.ownBlock = some g → BN ≠ g := fun g e => Ne.symm (HNE1.out g e)
                have hrow : ∀ g, u1.ownBlock = some g → wm.heap.size ≤ g := fun g e => (HO1.out.lt g e).1
                have sz15 : v14.heap.size ≤ v15.heap.size := hg.size
                replace nx_0 := cell_grow hg nx_0 (fun g e => hnb g e)
                have HBh15 := Lib.hid (HBh14.out.grown hg (by have := HBh14.out.size; omega) (fun g e => hrow g e))
                have HO2 := Lib.hid hown2
                have HNE2 := Lib.hid (show ∀ g, u2.ownBlock = some g → g ≠ BN from fun g e => by (rcases hat2 with e2 | e2); (rw [e2] at e; exact HNE1.out g e); (have h7 : v14.heap.size = g := by (rw [e2] at e; simpa using e)); (have h8 := block_lt_of_cell (a := ⟨BN, 0, none⟩) nx_00); omega)
                clear hown2 hg hat2 hrow hnb
                clear nx_00
                refine hK.out _ _ ?_ (fun hHeld => ?_)
                · exact trivial
                clear hK K
                try simp only [List.getElem_toArray, List.getElem_cons_succ, List.getElem_cons_zero, Act.put, List.setIfInBounds_toArray, List.set_cons_zero, List.set_cons_succ]
                refine wpAnyH_ready (rs := [11]) (by kernel_rfl) (by simp) ?_
                refine AllReadyH.cons rfl (fun K hK => ?_) AllReadyH.nil
                clear hHeld
                refine step_append_any rfl _ _ 22 rfl wm.heap.size 30 i0 (.slice none 0 0) 1 24 Try.underlying22 hi hz0 hz1 hz2 rfl (by decide) u2 (0 + kk + 1) ([] ++ (cs.take kk) ++ [.slice sa s.length sc]) (by rfl) HO2.out ⟨gl, 0, none⟩ (rows.length - kk) 0 (cs.drop kk) (by rfl) (by rw [List.length_drop]; omega) (fun j u hj => by have h7 := (List.getElem?_eq_some_iff.1 hj).1; rw [List.length_drop] at h7; have := HKN.out; omega) (fun u hu => HONE.out u (List.mem_of_mem_drop hu)) (by unfold maxLen; omega) (by omega) (by have := HBh15.out.size; omega) ?_
                intro u3 v16 hown3 hg hat3
                have nx_00 := nx_0
                have hnb : ∀ g, u2.ownBlock = some g → BN ≠ g := fun g e => Ne.symm (HNE2.out g e)
                have hrow : ∀ g, u2.ownBlock = some g → wm.heap.size ≤ g := fun g e => (HO2.out.lt g e).1
                have sz16 : v15.heap.size ≤ v16.heap.size := hg.size
                replace nx_0 := cell_grow hg nx_0 (fun g e => hnb g e)
                have HBh16 := Lib.hid (HBh15.out.grown hg (by have := HBh15.out.size; omega) (fun g e => hrow g e))
                have HO3 := Lib.hid hown3
                have HNE3 := Lib.hid (show ∀ g, u3.ownBlock = some g → g ≠ BN from fun g e => by (rcases hat3 with e2 | e2); (rw [e2] at e; exact HNE2.out g e); (have h7 : v15.heap.size = g := by (rw [e2] at e; simpa using e)); (have h8 := block_lt_of_cell (a := ⟨BN, 0, none⟩) nx_00); omega)
                clear hown3 hg hat3 hrow hnb
                clear nx_00
                refine hK.out _ _ ?_ (fun hHeld => ?_)
                · exact trivial
                clear hK K
                try simp only [List.getElem_toArray, List.getElem_cons_succ, List.getElem_cons_zero, Act.put, List.setIfInBounds_toArray, List.set_cons_zero, List.set_cons_succ]
                refine wpAnyH_take (i := 12) (v := ?_) rfl (by kernel_rfl) (by kernel_rfl) (by kernel_rfl) (fun _ _ _ h => h) (Or.inl ⟨by rfl, ?_⟩) (by assumption) ?_
                rotate_left
                · intro w9 hSw; (try dsimp only at hSw); go_simp; try with_reducible rfl
                try simp only [List.getElem_toArray, List.getElem_cons_succ, List.getElem_cons_zero, Act.put, List.setIfInBounds_toArray, List.set_cons_zero, List.set_cons_succ]
                refine wpAnyH_done (by kernel_rfl) ?_ _
                refine NoPanic.normal ?_
                clear hHeld
                have hfin : v16.ownsRow wm.heap.size 30 1 u3 (rows.length + 1) (insAt cs kk (.slice sa s.length sc)) := by
                  have h7 := HO3.out
                  rw [show 0 + kk + 1 + (rows.length - kk) = rows.length + 1 by omega] at h7
                  simpa [insAt, List.append_assoc] using h7
                obtain ⟨gn, cn, hun, hgn⟩ := setsn.own_form hfin (by omega)
                subst hun
                have hrn := (rows_ins ((HSN.out).below HBh16.out) HCLN.out kk (by rw [HCLN.out]; omega)).mono (Nat.le_refl _) (Nat.le_trans HBz.out.size HBh16.out.size)
                have hfin2 := ownsRow_base (lo' := w.heap.size) hfin (fun g e => Nat.le_trans HWZ.out.size (hfin.lt g e).1)
                have HFN := Lib.hid hfin2
                have HRN := Lib.hid hrn
                have HBN := Lib.hid (HWZ.out.trans (HBh16.out.mono HWZ.out.size))
                clear hfin hfin2 hrn
                go_wp2_with fail
                go_roundw
                case rel => exact ⟨k + 1, gn, cn, insAt cs kk (.slice sa s.length sc), by omega, by go_num, by rw [HTR.out, insAt_length _ _ _ (by omega)], by rw [HTR.out, insAt_length _ _ _ (by omega)]; exact HFN.out, by rw [HTR.out]; exact HRN.out, HBN.out⟩
                case measure => simp [intOf]; omega
              · have hk1 : kk ≤ cp := by omega
                go_wp2_with fail
                refine wp_region_noPanic ?_
                refine wp_region_held_drew (S := fun w' => True) (by kernel_rfl) ?_ (fun hHeld => ?_)
                · exact trivial
                have hb : Below wm.heap.size wm wm.drew := (Below.refl _ _).drew
                generalize hwn : wm.drew = v11 at *
                clear hwn
                have sz11 : wm.heap.size ≤ v11.heap.size := hb.size
                have HBh11 := Lib.hid (HBM.out.trans (hb.mono (by have := HBM.out.size; omega)))
                clear hb
                refine wpAnyH_take (i := 1) (v := ?_) rfl (by kernel_rfl) (by kernel_rfl) (by kernel_rfl) (fun _ _ _ h => h) (Or.inl ⟨by rfl, ?_⟩) (by assumption) ?_
                rotate_left
                · intro w9 hSw; (try dsimp only at hSw); go_simp; try with_reducible rfl
                try simp only [List.getElem_toArray, List.getElem_cons_succ, List.getElem_cons_zero, Act.put, List.setIfInBounds_toArray, List.set_cons_zero, List.set_cons_succ]
                refine wpAnyH_take (i := 2) (v := ?_) rfl (by kernel_rfl) (by kernel_rfl) (by kernel_rfl) (fun _ _ _ h => h) (Or.inl ⟨by rfl, ?_⟩) (by assumption) ?_
                rotate_left
                · intro w9 hSw; (try dsimp only at hSw); go_simp; try with_reducible rfl
                try simp only [List.getElem_toArray, List.getElem_cons_succ, List.getElem_cons_zero, Act.put, List.setIfInBounds_toArray, List.set_cons_zero, List.set_cons_succ]
                refine wpAnyH_take (i := 3) (v := ?_) rfl (by kernel_rfl) (by kernel_rfl) (by kernel_rfl) (fun _ _ _ h => h) (Or.inl ⟨by rfl, ?_⟩) (by assumption) ?_
                rotate_left
                · intro w9 hSw; (try dsimp only at hSw); go_simp; try with_reducible rfl
                try simp only [List.getElem_toArray, List.getElem_cons_succ, List.getElem_cons_zero, Act.put, List.setIfInBounds_toArray, List.set_cons_zero, List.set_cons_succ]
                refine wpAnyH_take (i := 5) (v := ?_) rfl (by kernel_rfl) (by kernel_rfl) (by kernel_rfl) (fun _ _ _ h => h) (Or.inl ⟨by rfl, ?_⟩) (by assumption) ?_
                rotate_left
                · intro w9 hSw; (try dsimp only at hSw); go_simp; try with_reducible rfl
                try simp only [List.getElem_toArray, List.getElem_cons_succ, List.getElem_cons_zero, Act.put, List.setIfInBounds_toArray, List.set_cons_zero, List.set_cons_succ]
                refine wpAnyH_take (i := 8) (v := ?_) rfl (by kernel_rfl) (by kernel_rfl) (by kernel_rfl) (fun _ _ _ h => h) (Or.inl ⟨by rfl, ?_⟩) (by assumption) ?_
                rotate_left
                · intro w9 hSw; (try dsimp only at hSw); go_simp; try with_reducible rfl
                try simp only [List.getElem_toArray, List.getElem_cons_succ, List.getElem_cons_zero, Act.put, List.setIfInBounds_toArray, List.set_cons_zero, List.set_cons_succ]
                refine wpAnyH_take (i := 9) (v := ?_) rfl (by kernel_rfl) (by kernel_rfl) (by kernel_rfl) (fun _ _ _ h => h) (Or.inl ⟨by rfl, ?_⟩) (by assumption) ?_
                rotate_left
                · intro w9 hSw; (try dsimp only at hSw); go_simp; try with_reducible rfl
                try simp only [List.getElem_toArray, List.getElem_cons_succ, List.getElem_cons_zero, Act.put, List.setIfInBounds_toArray, List.set_cons_zero, List.set_cons_succ]
                refine wpAnyH_take (i := 10) (v := ?_) rfl (by kernel_rfl) (by kernel_rfl) (by kernel_rfl) (fun _ _ _ h => h) (Or.inl ⟨by rfl, ?_⟩) (by assumption) ?_
                rotate_left
                · intro w9 hSw; (try dsimp only at hSw); go_simp; try with_reducible rfl
                try simp only [List.getElem_toArray, List.getElem_cons_succ, List.getElem_cons_zero, Act.put, List.setIfInBounds_toArray, List.set_cons_zero, List.set_cons_succ]
                refine wpAnyH_ready (rs := [0, 6]) (by kernel_rfl) (by simp) ?_
                refine AllReadyH.cons rfl (fun K hK => ?_) ?_
                · skip
                  clear hHeld
                  go_simp
                  have ho0 : (v11.alloc (.cells #[] 30)).ownsRow wm.heap.size 30 1 (.slice (some ⟨v11.heap.size, 0, none⟩) 0 0) 0 [] := World.ownsRow_made (base := wm.heap.size) (e := 30) (size := 1) v11 #[] 0 (by have := HBh11.out.size; omega) (by unfold maxLen; omega) rfl
                  have hb := below_alloc v11 (.cells #[] 30)
                  have lt_v0 := size_alloc' v11 (.cells #[] 30)
                  obtain ⟨B0, hB0⟩ : ∃ B0 : Nat, B0 = v11.heap.size := ⟨_, rfl⟩
                  rw [← hB0] at ho0 ⊢
                  have hB0l : B0 ≤ v11.heap.size ∧ v11.heap.size ≤ B0 := by omega
                  clear hB0
                  generalize hwn : v11.alloc (.cells #[] 30) = v12 at *
                  clear hwn
                  have sz12 : v11.heap.size ≤ v12.heap.size := hb.size
                  have HBh12 := Lib.hid (HBh11.out.trans (hb.mono (by have := HBh11.out.size; omega)))
                  clear hb
                  have HO0 := Lib.hid ho0
                  clear ho0
                  refine hK.out _ _ ?_ (fun hHeld => ?_)
                  · exact trivial
                  clear hK K
                  try simp only [List.getElem_toArray, List.getElem_cons_succ, List.getElem_cons_zero, Act.put, List.setIfInBounds_toArray, List.set_cons_zero, List.set_cons_succ]
                  refine wpAnyH_ready (rs := [4, 6]) (by kernel_rfl) (by simp) ?_
                  refine AllReadyH.cons rfl (fun K hK => ?_) ?_
                  · skip
                    clear hHeld
                    refine step_append_any rfl _ _ 22 rfl wm.heap.size 30 i0 (.slice none 0 0) 1 24 Try.underlying22 hi hz0 hz1 hz2 rfl (by decide) (Value.slice (some ⟨B0, 0, none⟩) 0 0) (0) ([]) (by rfl) HO0.out ⟨gl, 0, none⟩ kk cp (cs.take kk) (by rfl) (by rw [List.length_take]; omega) (fun j u hj => by rw [Go.WideShapes.add_plain, Nat.zero_add]; exact cell_below HBh12.out (HCL.out j u (take_some hj)) hgl) (fun u hu => HONE.out u (List.mem_of_mem_take hu)) (by unfold maxLen; omega) (by omega) (by have := HBh12.out.size; omega) ?_
                    intro u1 v13 hown1 hg hat1
                    have hrow : ∀ g, (Value.slice (some ⟨B0, 0, none⟩) 0 0).ownBlock = some g → wm.heap.size ≤ g := fun g e => (HO0.out.lt g e).1
                    have sz13 : v12.heap.size ≤ v13.heap.size := hg.size
                    have HBh13 := Lib.hid (HBh12.out.grown hg (by have := HBh12.out.size; omega) (fun g e => hrow g e))
                    have HO1 := Lib.hid hown1
                    clear hown1 hg hat1 hrow
                    refine hK.out _ _ ?_ (fun hHeld => ?_)
                    · exact trivial
                    clear hK K
                    try simp only [List.getElem_toArray, List.getElem_cons_succ, List.getElem_cons_zero, Act.put, List.setIfInBounds_toArray, List.set_cons_zero, List.set_cons_succ]
                    refine wpAnyH_ready (rs := [6]) (by kernel_rfl) (by simp) ?_
                    refine AllReadyH.cons rfl (fun K hK => ?_) AllReadyH.nil
                    clear hHeld
                    go_simp
                    have nx_0 : (v13.alloc (.cells #[.slice sa s.length sc] 30)).cell? ⟨v13.heap.size, 0, none⟩ = some (.slice sa s.length sc) := cell_new _ _ _ rfl rfl
                    have HNE1 := Lib.hid (show ∀ g, u1.ownBlock = some g → g ≠ v13.heap.size from fun g e => by have := (HO1.out.lt g e).2; omega)
                    replace HO1 := Lib.hid (HO1.out.alloc (.cells #[.slice sa s.length sc] 30))
                    have hb := below_alloc v13 (.cells #[.slice sa s.length sc] 30)
                    have lt_nx := size_alloc' v13 (.cells #[.slice sa s.length sc] 30)
                    obtain ⟨BN, hBN⟩ : ∃ BN : Nat, BN = v13.heap.size := ⟨_, rfl⟩
                    rw [← hBN] at nx_0 HNE1 ⊢
                    have hBNl : BN ≤ v13.heap.size ∧ v13.heap.size ≤ BN := by omega
                    clear hBN
                    generalize hwn : v13.alloc (.cells #[.slice sa s.length sc] 30) = v14 at *
                    clear hwn
                    have sz14 : v13.heap.size ≤ v14.heap.size := hb.size
                    have HBh14 := Lib.hid (HBh13.out.trans (hb.mono (by have := HBh13.out.size; omega)))
                    clear hb
                    refine hK.out _ _ ?_ (fun hHeld => ?_)
                    · exact trivial
                    clear hK K
                    try simp only [List.getElem_toArray, List.getElem_cons_succ, List.getElem_cons_zero, Act.put, List.setIfInBounds_toArray, List.set_cons_zero, List.set_cons_succ]
                    refine wpAnyH_ready (rs := [7]) (by kernel_rfl) (by simp) ?_
                    refine AllReadyH.cons rfl (fun K hK => ?_) AllReadyH.nil
                    clear hHeld
                    refine step_append_any rfl _ _ 22 rfl wm.heap.size 30 i0 (.slice none 0 0) 1 24 Try.underlying22 hi hz0 hz1 hz2 rfl (by decide) u1 (0 + kk) ([] ++ (cs.take kk)) (by rfl) HO1.out ⟨BN, 0, none⟩ 1 1 [.slice sa s.length sc] (by rfl) (by rfl) (fun j u hj => by (have h7 : j = 0 := by (have := (List.getElem?_eq_some_iff.1 hj).1; simp at this; exact this)); subst h7; simp at hj; subst hj; simpa [Addr.add] using nx_0) (by simp [Value.oneCell']) (by unfold maxLen; omega) (by omega) (by have := HBh14.out.size; omega) ?_
                    intro u2 v15 hown2 hg hat2
                    have nx_00 := nx_0
                    have hnb : ∀ g, u1.ownBlock = some g → BN ≠ g := fun g e => Ne.symm (HNE1.out g e)
                    have hrow : ∀ g, u1.ownBlock = some g → wm.heap.size ≤ g := fun g e => (HO1.out.lt g e).1
                    have sz15 : v14.heap.size ≤ v15.heap.size := hg.size
                    replace nx_0 := cell_grow hg nx_0 (fun g e => hnb g e)
                    have HBh15 := Lib.hid (HBh14.out.grown hg (by have := HBh14.out.size; omega) (fun g e => hrow g e))
                    have HO2 := Lib.hid hown2
                    have HNE2 := Lib.hid (show ∀ g, u2.ownBlock = some g → g ≠ BN from fun g e => by (rcases hat2 with e2 | e2); (rw [e2] at e; exact HNE1.out g e); (have h7 : v14.heap.size = g := by (rw [e2] at e; simpa using e)); (have h8 := block_lt_of_cell (a := ⟨BN, 0, none⟩) nx_00); omega)
                    clear hown2 hg hat2 hrow hnb
                    clear nx_00
                    refine hK.out _ _ ?_ (fun hHeld => ?_)
                    · exact trivial
                    clear hK K
                    try simp only [List.getElem_toArray, List.getElem_cons_succ, List.getElem_cons_zero, Act.put, List.setIfInBounds_toArray, List.set_cons_zero, List.set_cons_succ]
                    refine wpAnyH_ready (rs := [11]) (by kernel_rfl) (by simp) ?_
                    refine AllReadyH.cons rfl (fun K hK => ?_) AllReadyH.nil
                    clear hHeld
                    refine step_append_any rfl _ _ 22 rfl wm.heap.size 30 i0 (.slice none 0 0) 1 24 Try.underlying22 hi hz0 hz1 hz2 rfl (by decide) u2 (0 + kk + 1) ([] ++ (cs.take kk) ++ [.slice sa s.length sc]) (by rfl) HO2.out ⟨gl, kk, none⟩ (rows.length - kk) (cp - kk) (cs.drop kk) (by rfl) (by rw [List.length_drop]; omega) (fun j u hj => by rw [Go.WideShapes.add_plain]; exact cell_below HBh15.out (HCL.out (kk + j) u (by rw [List.getElem?_drop] at hj; exact hj)) hgl) (fun u hu => HONE.out u (List.mem_of_mem_drop hu)) (by unfold maxLen; omega) (by omega) (by have := HBh15.out.size; omega) ?_
                    intro u3 v16 hown3 hg hat3
                    have nx_00 := nx_0
                    have hnb : ∀ g, u2.ownBlock = some g → BN ≠ g := fun g e => Ne.symm (HNE2.out g e)
                    have hrow : ∀ g, u2.ownBlock = some g → wm.heap.size ≤ g := fun g e => (HO2.out.lt g e).1
                    have sz16 : v15.heap.size ≤ v16.heap.size := hg.size
                    replace nx_0 := cell_grow hg nx_0 (fun g e => hnb g e)
                    have HBh16 := Lib.hid (HBh15.out.grown hg (by have := HBh15.out.size; omega) (fun g e => hrow g e))
                    have HO3 := Lib.hid hown3
                    have HNE3 := Lib.hid (show ∀ g, u3.ownBlock = some g → g ≠ BN from fun g e => by (rcases hat3 with e2 | e2); (rw [e2] at e; exact HNE2.out g e); (have h7 : v15.heap.size = g := by (rw [e2] at e; simpa using e)); (have h8 := block_lt_of_cell (a := ⟨BN, 0, none⟩) nx_00); omega)
                    clear hown3 hg hat3 hrow hnb
                    clear nx_00
                    refine hK.out _ _ ?_ (fun hHeld => ?_)
                    · exact trivial
                    clear hK K
                    try simp only [List.getElem_toArray, List.getElem_cons_succ, List.getElem_cons_zero, Act.put, List.setIfInBounds_toArray, List.set_cons_zero, List.set_cons_succ]
                    refine wpAnyH_take (i := 12) (v := ?_) rfl (by kernel_rfl) (by kernel_rfl) (by kernel_rfl) (fun _ _ _ h => h) (Or.inl ⟨by rfl, ?_⟩) (by assumption) ?_
                    rotate_left
                    · intro w9 hSw; (try dsimp only at hSw); go_simp; try with_reducible rfl
                    try simp only [List.getElem_toArray, List.getElem_cons_succ, List.getElem_cons_zero, Act.put, List.setIfInBounds_toArray, List.set_cons_zero, List.set_cons_succ]
                    refine wpAnyH_done (by kernel_rfl) ?_ _
                    refine NoPanic.normal ?_
                    clear hHeld
                    have hfin : v16.ownsRow wm.heap.size 30 1 u3 (rows.length + 1) (insAt cs kk (.slice sa s.length sc)) := by
                      have h7 := HO3.out
                      rw [show 0 + kk + 1 + (rows.length - kk) = rows.length + 1 by omega] at h7
                      simpa [insAt, List.append_assoc] using h7
                    obtain ⟨gn, cn, hun, hgn⟩ := setsn.own_form hfin (by omega)
                    subst hun
                    have hrn := (rows_ins ((HSN.out).below HBh16.out) HCLN.out kk (by rw [HCLN.out]; omega)).mono (Nat.le_refl _) (Nat.le_trans HBz.out.size HBh16.out.size)
                    have hfin2 := ownsRow_base (lo' := w.heap.size) hfin (fun g e => Nat.le_trans HWZ.out.size (hfin.lt g e).1)
                    have HFN := Lib.hid hfin2
                    have HRN := Lib.hid hrn
                    have HBN := Lib.hid (HWZ.out.trans (HBh16.out.mono HWZ.out.size))
                    clear hfin hfin2 hrn
                    go_wp2_with fail
                    go_roundw
                    case rel => exact ⟨k + 1, gn, cn, insAt cs kk (.slice sa s.length sc), by omega, by go_num, by rw [HTR.out, insAt_length _ _ _ (by omega)], by rw [HTR.out, insAt_length _ _ _ (by omega)]; exact HFN.out, by rw [HTR.out]; exact HRN.out, HBN.out⟩
                    case measure => simp [intOf]; omega
                  refine AllReadyH.cons rfl (fun K hK => ?_) AllReadyH.nil
                  clear hHeld
                  go_simp
                  have nx_0 : (v12.alloc (.cells #[.slice sa s.length sc] 30)).cell? ⟨v12.heap.size, 0, none⟩ = some (.slice sa s.length sc) := cell_new _ _ _ rfl rfl
                  have HNE0 := Lib.hid (show ∀ g, (Value.slice (some ⟨B0, 0, none⟩) 0 0).ownBlock = some g → g ≠ v12.heap.size from fun g e => by have := (HO0.out.lt g e).2; omega)
                  replace HO0 := Lib.hid (HO0.out.alloc (.cells #[.slice sa s.length sc] 30))
                  have hb := below_alloc v12 (.cells #[.slice sa s.length sc] 30)
                  have lt_nx := size_alloc' v12 (.cells #[.slice sa s.length sc] 30)
                  obtain ⟨BN, hBN⟩ : ∃ BN : Nat, BN = v12.heap.size := ⟨_, rfl⟩
                  rw [← hBN] at nx_0 HNE0 ⊢
                  have hBNl : BN ≤ v12.heap.size ∧ v12.heap.size ≤ BN := by omega
                  clear hBN
                  generalize hwn : v12.alloc (.cells #[.slice sa s.length sc] 30) = v13 at *
                  clear hwn
                  have sz13 : v12.heap.size ≤ v13.heap.size := hb.size
                  have HBh13 := Lib.hid (HBh12.out.trans (hb.mono (by have := HBh12.out.size; omega)))
                  clear hb
                  refine hK.out _ _ ?_ (fun hHeld => ?_)
                  · exact trivial
                  clear hK K
                  try simp only [List.getElem_toArray, List.getElem_cons_succ, List.getElem_cons_zero, Act.put, List.setIfInBounds_toArray, List.set_cons_zero, List.set_cons_succ]
                  refine wpAnyH_ready (rs := [4]) (by kernel_rfl) (by simp) ?_
                  refine AllReadyH.cons rfl (fun K hK => ?_) AllReadyH.nil
                  clear hHeld
                  refine step_append_any rfl _ _ 22 rfl wm.heap.size 30 i0 (.slice none 0 0) 1 24 Try.underlying22 hi hz0 hz1 hz2 rfl (by decide) (Value.slice (some ⟨B0, 0, none⟩) 0 0) (0) ([]) (by rfl) HO0.out ⟨gl, 0, none⟩ kk cp (cs.take kk) (by rfl) (by rw [List.length_take]; omega) (fun j u hj => by rw [Go.WideShapes.add_plain, Nat.zero_add]; exact cell_below HBh13.out (HCL.out j u (take_some hj)) hgl) (fun u hu => HONE.out u (List.mem_of_mem_take hu)) (by unfold maxLen; omega) (by omega) (by have := HBh13.out.size; omega) ?_
                  intro u1 v14 hown1 hg hat1
                  have nx_00 := nx_0
                  have hnb : ∀ g, (Value.slice (some ⟨B0, 0, none⟩) 0 0).ownBlock = some g → BN ≠ g := fun g e => Ne.symm (HNE0.out g e)
                  have hrow : ∀ g, (Value.slice (some ⟨B0, 0, none⟩) 0 0).ownBlock = some g → wm.heap.size ≤ g := fun g e => (HO0.out.lt g e).1
                  have sz14 : v13.heap.size ≤ v14.heap.size := hg.size
                  replace nx_0 := cell_grow hg nx_0 (fun g e => hnb g e)
                  have HBh14 := Lib.hid (HBh13.out.grown hg (by have := HBh13.out.size; omega) (fun g e => hrow g e))
                  have HO1 := Lib.hid hown1
                  have HNE1 := Lib.hid (show ∀ g, u1.ownBlock = some g → g ≠ BN from fun g e => by (rcases hat1 with e2 | e2); (rw [e2] at e; exact HNE0.out g e); (have h7 : v13.heap.size = g := by (rw [e2] at e; simpa using e)); (have h8 := block_lt_of_cell (a := ⟨BN, 0, none⟩) nx_00); omega)
                  clear hown1 hg hat1 hrow hnb
                  clear nx_00
                  refine hK.out _ _ ?_ (fun hHeld => ?_)
                  · exact trivial
                  clear hK K
                  try simp only [List.getElem_toArray, List.getElem_cons_succ, List.getElem_cons_zero, Act.put, List.setIfInBounds_toArray, List.set_cons_zero, List.set_cons_succ]
                  refine wpAnyH_ready (rs := [7]) (by kernel_rfl) (by simp) ?_
                  refine AllReadyH.cons rfl (fun K hK => ?_) AllReadyH.nil
                  clear hHeld
                  refine step_append_any rfl _ _ 22 rfl wm.heap.size 30 i0 (.slice none 0 0) 1 24 Try.underlying22 hi hz0 hz1 hz2 rfl (by decide) u1 (0 + kk) ([] ++ (cs.take kk)) (by rfl) HO1.out ⟨BN, 0, none⟩ 1 1 [.slice sa s.length sc] (by rfl) (by rfl) (fun j u hj => by (have h7 : j = 0 := by (have := (List.getElem?_eq_some_iff.1 hj).1; simp at this; exact this)); subst h7; simp at hj; subst hj; simpa [Addr.add] using nx_0) (by simp [Value.oneCell']) (by unfold maxLen; omega) (by omega) (by have := HBh14.out.size; omega) ?_
                  intro u2 v15 hown2 hg hat2
                  have nx_00 := nx_0
                  have hnb : ∀ g, u1.ownBlock = some g → BN ≠ g := fun g e => Ne.symm (HNE1.out g e)
                  have hrow : ∀ g, u1.ownBlock = some g → wm.heap.size ≤ g := fun g e => (HO1.out.lt g e).1
                  have sz15 : v14.heap.size ≤ v15.heap.size := hg.size
                  replace nx_0 := cell_grow hg nx_0 (fun g e => hnb g e)
                  have HBh15 := Lib.hid (HBh14.out.grown hg (by have := HBh14.out.size; omega) (fun g e => hrow g e))
                  have HO2 := Lib.hid hown2
                  have HNE2 := Lib.hid (show ∀ g, u2.ownBlock = some g → g ≠ BN from fun g e => by (rcases hat2 with e2 | e2); (rw [e2] at e; exact HNE1.out g e); (have h7 : v14.heap.size = g := by (rw [e2] at e; simpa using e)); (have h8 := block_lt_of_cell (a := ⟨BN, 0, none⟩) nx_00); omega)
                  clear hown2 hg hat2 hrow hnb
                  clear nx_00
                  refine hK.out _ _ ?_ (fun hHeld => ?_)
                  · exact trivial
                  clear hK K
                  try simp only [List.getElem_toArray, List.getElem_cons_succ, List.getElem_cons_zero, Act.put, List.setIfInBounds_toArray, List.set_cons_zero, List.set_cons_succ]
                  refine wpAnyH_ready (rs := [11]) (by kernel_rfl) (by simp) ?_
                  refine AllReadyH.cons rfl (fun K hK => ?_) AllReadyH.nil
                  clear hHeld
                  refine step_append_any rfl _ _ 22 rfl wm.heap.size 30 i0 (.slice none 0 0) 1 24 Try.underlying22 hi hz0 hz1 hz2 rfl (by decide) u2 (0 + kk + 1) ([] ++ (cs.take kk) ++ [.slice sa s.length sc]) (by rfl) HO2.out ⟨gl, kk, none⟩ (rows.length - kk) (cp - kk) (cs.drop kk) (by rfl) (by rw [List.length_drop]; omega) (fun j u hj => by rw [Go.WideShapes.add_plain]; exact cell_below HBh15.out (HCL.out (kk + j) u (by rw [List.getElem?_drop] at hj; exact hj)) hgl) (fun u hu => HONE.out u (List.mem_of_mem_drop hu)) (by unfold maxLen; omega) (by omega) (by have := HBh15.out.size; omega) ?_
                  intro u3 v16 hown3 hg hat3
                  have nx_00 := nx_0
                  have hnb : ∀ g, u2.ownBlock = some g → BN ≠ g := fun g e => Ne.symm (HNE2.out g e)
                  have hrow : ∀ g, u2.ownBlock = some g → wm.heap.size ≤ g := fun g e => (HO2.out.lt g e).1
                  have sz16 : v15.heap.size ≤ v16.heap.size := hg.size
                  replace nx_0 := cell_grow hg nx_0 (fun g e => hnb g e)
                  have HBh16 := Lib.hid (HBh15.out.grown hg (by have := HBh15.out.size; omega) (fun g e => hrow g e))
                  have HO3 := Lib.hid hown3
                  have HNE3 := Lib.hid (show ∀ g, u3.ownBlock = some g → g ≠ BN from fun g e => by (rcases hat3 with e2 | e2); (rw [e2] at e; exact HNE2.out g e); (have h7 : v15.heap.size = g := by (rw [e2] at e; simpa using e)); (have h8 := block_lt_of_cell (a := ⟨BN, 0, none⟩) nx_00); omega)
                  clear hown3 hg hat3 hrow hnb
                  clear nx_00
                  refine hK.out _ _ ?_ (fun hHeld => ?_)
                  · exact trivial
                  clear hK K
                  try simp only [List.getElem_toArray, List.getElem_cons_succ, List.getElem_cons_zero, Act.put, List.setIfInBounds_toArray, List.set_cons_zero, List.set_cons_succ]
                  refine wpAnyH_take (i := 12) (v := ?_) rfl (by kernel_rfl) (by kernel_rfl) (by kernel_rfl) (fun _ _ _ h => h) (Or.inl ⟨by rfl, ?_⟩) (by assumption) ?_
                  rotate_left
                  · intro w9 hSw; (try dsimp only at hSw); go_simp; try with_reducible rfl
                  try simp only [List.getElem_toArray, List.getElem_cons_succ, List.getElem_cons_zero, Act.put, List.setIfInBounds_toArray, List.set_cons_zero, List.set_cons_succ]
                  refine wpAnyH_done (by kernel_rfl) ?_ _
                  refine NoPanic.normal ?_
                  clear hHeld
                  have hfin : v16.ownsRow wm.heap.size 30 1 u3 (rows.length + 1) (insAt cs kk (.slice sa s.length sc)) := by
                    have h7 := HO3.out
                    rw [show 0 + kk + 1 + (rows.length - kk) = rows.length + 1 by omega] at h7
                    simpa [insAt, List.append_assoc] using h7
                  obtain ⟨gn, cn, hun, hgn⟩ := setsn.own_form hfin (by omega)
                  subst hun
                  have hrn := (rows_ins ((HSN.out).below HBh16.out) HCLN.out kk (by rw [HCLN.out]; omega)).mono (Nat.le_refl _) (Nat.le_trans HBz.out.size HBh16.out.size)
                  have hfin2 := ownsRow_base (lo' := w.heap.size) hfin (fun g e => Nat.le_trans HWZ.out.size (hfin.lt g e).1)
                  have HFN := Lib.hid hfin2
                  have HRN := Lib.hid hrn
                  have HBN := Lib.hid (HWZ.out.trans (HBh16.out.mono HWZ.out.size))
                  clear hfin hfin2 hrn
                  go_wp2_with fail
                  go_roundw
                  case rel => exact ⟨k + 1, gn, cn, insAt cs kk (.slice sa s.length sc), by omega, by go_num, by rw [HTR.out, insAt_length _ _ _ (by omega)], by rw [HTR.out, insAt_length _ _ _ (by omega)]; exact HFN.out, by rw [HTR.out]; exact HRN.out, HBN.out⟩
                  case measure => simp [intOf]; omega
                refine AllReadyH.cons rfl (fun K hK => ?_) AllReadyH.nil
                clear hHeld
                go_simp
                have nx_0 : (v11.alloc (.cells #[.slice sa s.length sc] 30)).cell? ⟨v11.heap.size, 0, none⟩ = some (.slice sa s.length sc) := cell_new _ _ _ rfl rfl
                have hb := below_alloc v11 (.cells #[.slice sa s.length sc] 30)
                have lt_nx := size_alloc' v11 (.cells #[.slice sa s.length sc] 30)
                obtain ⟨BN, hBN⟩ : ∃ BN : Nat, BN = v11.heap.size := ⟨_, rfl⟩
                rw [← hBN] at nx_0  ⊢
                have hBNl : BN ≤ v11.heap.size ∧ v11.heap.size ≤ BN := by omega
                clear hBN
                generalize hwn : v11.alloc (.cells #[.slice sa s.length sc] 30) = v12 at *
                clear hwn
                have sz12 : v11.heap.size ≤ v12.heap.size := hb.size
                have HBh12 := Lib.hid (HBh11.out.trans (hb.mono (by have := HBh11.out.size; omega)))
                clear hb
                refine hK.out _ _ ?_ (fun hHeld => ?_)
                · exact trivial
                clear hK K
                try simp only [List.getElem_toArray, List.getElem_cons_succ, List.getElem_cons_zero, Act.put, List.setIfInBounds_toArray, List.set_cons_zero, List.set_cons_succ]
                refine wpAnyH_ready (rs := [0]) (by kernel_rfl) (by simp) ?_
                refine AllReadyH.cons rfl (fun K hK => ?_) AllReadyH.nil
                clear hHeld
                go_simp
                have ho0 : (v12.alloc (.cells #[] 30)).ownsRow wm.heap.size 30 1 (.slice (some ⟨v12.heap.size, 0, none⟩) 0 0) 0 [] := World.ownsRow_made (base := wm.heap.size) (e := 30) (size := 1) v12 #[] 0 (by have := HBh12.out.size; omega) (by unfold maxLen; omega) rfl
                have hb := below_alloc v12 (.cells #[] 30)
                have lt_v0 := size_alloc' v12 (.cells #[] 30)
                have hne0 : BN ≠ v12.heap.size := by omega
                obtain ⟨B0, hB0⟩ : ∃ B0 : Nat, B0 = v12.heap.size := ⟨_, rfl⟩
                rw [← hB0] at ho0 ⊢
                have hB0l : B0 ≤ v12.heap.size ∧ v12.heap.size ≤ B0 := by omega
                clear hB0
                generalize hwn : v12.alloc (.cells #[] 30) = v13 at *
                clear hwn
                have sz13 : v12.heap.size ≤ v13.heap.size := hb.size
                replace nx_0 := cell_keep hb nx_0
                have HBh13 := Lib.hid (HBh12.out.trans (hb.mono (by have := HBh12.out.size; omega)))
                clear hb
                have HO0 := Lib.hid ho0
                clear ho0
                have HNE0 := Lib.hid (show ∀ g, (Value.slice (some ⟨B0, 0, none⟩) 0 0).ownBlock = some g → g ≠ BN from fun g e => by (have e2 : B0 = g := by simpa [Value.ownBlock] using e); omega)
                refine hK.out _ _ ?_ (fun hHeld => ?_)
                · exact trivial
                clear hK K
                try simp only [List.getElem_toArray, List.getElem_cons_succ, List.getElem_cons_zero, Act.put, List.setIfInBounds_toArray, List.set_cons_zero, List.set_cons_succ]
                refine wpAnyH_ready (rs := [4]) (by kernel_rfl) (by simp) ?_
                refine AllReadyH.cons rfl (fun K hK => ?_) AllReadyH.nil
                clear hHeld
                refine step_append_any rfl _ _ 22 rfl wm.heap.size 30 i0 (.slice none 0 0) 1 24 Try.underlying22 hi hz0 hz1 hz2 rfl (by decide) (Value.slice (some ⟨B0, 0, none⟩) 0 0) (0) ([]) (by rfl) HO0.out ⟨gl, 0, none⟩ kk cp (cs.take kk) (by rfl) (by rw [List.length_take]; omega) (fun j u hj => by rw [Go.WideShapes.add_plain, Nat.zero_add]; exact cell_below HBh13.out (HCL.out j u (take_some hj)) hgl) (fun u hu => HONE.out u (List.mem_of_mem_take hu)) (by unfold maxLen; omega) (by omega) (by have := HBh13.out.size; omega) ?_
                intro u1 v14 hown1 hg hat1
                have nx_00 := nx_0
                have hnb : ∀ g, (Value.slice (some ⟨B0, 0, none⟩) 0 0).ownBlock = some g → BN ≠ g := fun g e => Ne.symm (HNE0.out g e)
                have hrow : ∀ g, (Value.slice (some ⟨B0, 0, none⟩) 0 0).ownBlock = some g → wm.heap.size ≤ g := fun g e => (HO0.out.lt g e).1
                have sz14 : v13.heap.size ≤ v14.heap.size := hg.size
                replace nx_0 := cell_grow hg nx_0 (fun g e => hnb g e)
                have HBh14 := Lib.hid (HBh13.out.grown hg (by have := HBh13.out.size; omega) (fun g e => hrow g e))
                have HO1 := Lib.hid hown1
                have HNE1 := Lib.hid (show ∀ g, u1.ownBlock = some g → g ≠ BN from fun g e => by (rcases hat1 with e2 | e2); (rw [e2] at e; exact HNE0.out g e); (have h7 : v13.heap.size = g := by (rw [e2] at e; simpa using e)); (have h8 := block_lt_of_cell (a := ⟨BN, 0, none⟩) nx_00); omega)
                clear hown1 hg hat1 hrow hnb
                clear nx_00
                refine hK.out _ _ ?_ (fun hHeld => ?_)
                · exact trivial
                clear hK K
                try simp only [List.getElem_toArray, List.getElem_cons_succ, List.getElem_cons_zero, Act.put, List.setIfInBounds_toArray, List.set_cons_zero, List.set_cons_succ]
                refine wpAnyH_ready (rs := [7]) (by kernel_rfl) (by simp) ?_
                refine AllReadyH.cons rfl (fun K hK => ?_) AllReadyH.nil
                clear hHeld
                refine step_append_any rfl _ _ 22 rfl wm.heap.size 30 i0 (.slice none 0 0) 1 24 Try.underlying22 hi hz0 hz1 hz2 rfl (by decide) u1 (0 + kk) ([] ++ (cs.take kk)) (by rfl) HO1.out ⟨BN, 0, none⟩ 1 1 [.slice sa s.length sc] (by rfl) (by rfl) (fun j u hj => by (have h7 : j = 0 := by (have := (List.getElem?_eq_some_iff.1 hj).1; simp at this; exact this)); subst h7; simp at hj; subst hj; simpa [Addr.add] using nx_0) (by simp [Value.oneCell']) (by unfold maxLen; omega) (by omega) (by have := HBh14.out.size; omega) ?_
                intro u2 v15 hown2 hg hat2
                have nx_00 := nx_0
                have hnb : ∀ g, u1.ownBlock = some g → BN ≠ g := fun g e => Ne.symm (HNE1.out g e)
                have hrow : ∀ g, u1.ownBlock = some g → wm.heap.size ≤ g := fun g e => (HO1.out.lt g e).1
                have sz15 : v14.heap.size ≤ v15.heap.size := hg.size
                replace nx_0 := cell_grow hg nx_0 (fun g e => hnb g e)
                have HBh15 := Lib.hid (HBh14.out.grown hg (by have := HBh14.out.size; omega) (fun g e => hrow g e))
                have HO2 := Lib.hid hown2
                have HNE2 := Lib.hid (show ∀ g, u2.ownBlock = some g → g ≠ BN from fun g e => by (rcases hat2 with e2 | e2); (rw [e2] at e; exact HNE1.out g e); (have h7 : v14.heap.size = g := by (rw [e2] at e; simpa using e)); (have h8 := block_lt_of_cell (a := ⟨BN, 0, none⟩) nx_00); omega)
                clear hown2 hg hat2 hrow hnb
                clear nx_00
                refine hK.out _ _ ?_ (fun hHeld => ?_)
                · exact trivial
                clear hK K
                try simp only [List.getElem_toArray, List.getElem_cons_succ, List.getElem_cons_zero, Act.put, List.setIfInBounds_toArray, List.set_cons_zero, List.set_cons_succ]
                refine wpAnyH_ready (rs := [11]) (by kernel_rfl) (by simp) ?_
                refine AllReadyH.cons rfl (fun K hK => ?_) AllReadyH.nil
                clear hHeld
                refine step_append_any rfl _ _ 22 rfl wm.heap.size 30 i0 (.slice none 0 0) 1 24 Try.underlying22 hi hz0 hz1 hz2 rfl (by decide) u2 (0 + kk + 1) ([] ++ (cs.take kk) ++ [.slice sa s.length sc]) (by rfl) HO2.out ⟨gl, kk, none⟩ (rows.length - kk) (cp - kk) (cs.drop kk) (by rfl) (by rw [List.length_drop]; omega) (fun j u hj => by rw [Go.WideShapes.add_plain]; exact cell_below HBh15.out (HCL.out (kk + j) u (by rw [List.getElem?_drop] at hj; exact hj)) hgl) (fun u hu => HONE.out u (List.mem_of_mem_drop hu)) (by unfold maxLen; omega) (by omega) (by have := HBh15.out.size; omega) ?_
                intro u3 v16 hown3 hg hat3
                have nx_00 := nx_0
                have hnb : ∀ g, u2.ownBlock = some g → BN ≠ g := fun g e => Ne.symm (HNE2.out g e)
                have hrow : ∀ g, u2.ownBlock = some g → wm.heap.size ≤ g := fun g e => (HO2.out.lt g e).1
                have sz16 : v15.heap.size ≤ v16.heap.size := hg.size
                replace nx_0 := cell_grow hg nx_0 (fun g e => hnb g e)
                have HBh16 := Lib.hid (HBh15.out.grown hg (by have := HBh15.out.size; omega) (fun g e => hrow g e))
                have HO3 := Lib.hid hown3
                have HNE3 := Lib.hid (show ∀ g, u3.ownBlock = some g → g ≠ BN from fun g e => by (rcases hat3 with e2 | e2); (rw [e2] at e; exact HNE2.out g e); (have h7 : v15.heap.size = g := by (rw [e2] at e; simpa using e)); (have h8 := block_lt_of_cell (a := ⟨BN, 0, none⟩) nx_00); omega)
                clear hown3 hg hat3 hrow hnb
                clear nx_00
                refine hK.out _ _ ?_ (fun hHeld => ?_)
                · exact trivial
                clear hK K
                try simp only [List.getElem_toArray, List.getElem_cons_succ, List.getElem_cons_zero, Act.put, List.setIfInBounds_toArray, List.set_cons_zero, List.set_cons_succ]
                refine wpAnyH_take (i := 12) (v := ?_) rfl (by kernel_rfl) (by kernel_rfl) (by kernel_rfl) (fun _ _ _ h => h) (Or.inl ⟨by rfl, ?_⟩) (by assumption) ?_
                rotate_left
                · intro w9 hSw; (try dsimp only at hSw); go_simp; try with_reducible rfl
                try simp only [List.getElem_toArray, List.getElem_cons_succ, List.getElem_cons_zero, Act.put, List.setIfInBounds_toArray, List.set_cons_zero, List.set_cons_succ]
                refine wpAnyH_done (by kernel_rfl) ?_ _
                refine NoPanic.normal ?_
                clear hHeld
                have hfin : v16.ownsRow wm.heap.size 30 1 u3 (rows.length + 1) (insAt cs kk (.slice sa s.length sc)) := by
                  have h7 := HO3.out
                  rw [show 0 + kk + 1 + (rows.length - kk) = rows.length + 1 by omega] at h7
                  simpa [insAt, List.append_assoc] using h7
                obtain ⟨gn, cn, hun, hgn⟩ := setsn.own_form hfin (by omega)
                subst hun
                have hrn := (rows_ins ((HSN.out).below HBh16.out) HCLN.out kk (by rw [HCLN.out]; omega)).mono (Nat.le_refl _) (Nat.le_trans HBz.out.size HBh16.out.size)
                have hfin2 := ownsRow_base (lo' := w.heap.size) hfin (fun g e => Nat.le_trans HWZ.out.size (hfin.lt g e).1)
                have HFN := Lib.hid hfin2
                have HRN := Lib.hid hrn
                have HBN := Lib.hid (HWZ.out.trans (HBh16.out.mono HWZ.out.size))
                clear hfin hfin2 hrn
                go_wp2_with fail
                go_roundw
                case rel => exact ⟨k + 1, gn, cn, insAt cs kk (.slice sa s.length sc), by omega, by go_num, by rw [HTR.out, insAt_length _ _ _ (by omega)], by rw [HTR.out, insAt_length _ _ _ (by omega)]; exact HFN.out, by rw [HTR.out]; exact HRN.out, HBN.out⟩
                case measure => simp [intOf]; omega
          · have HF1 := Lib.hid (HB1.out true (Lib.hid hb1))
            have HKJ := Lib.hid (show kD rows s j = K from by have h7 := HK.out; rw [HD.out, hb1, if_pos rfl] at h7; exact h7)
            clear hb1 HB1 HB2 HD hrd hck hrl hsl HK
            generalize rows.getD j [] = row at *
            go_wp2_with fail
            refine HF1.out.mono ?_
            rintro e w' ⟨rfl, m2, rfl⟩
            go_wp2_with fail
            go_roundw
            case rel => obtain ⟨q, hq⟩ := HMM.out m2; exact ⟨j, q, by omega, by go_num, HKJ, hq⟩
            case measure => simp [intOf]
        · have HKZ := Lib.hid (show kk = 0 by omega)
          have hkl : kk ≤ rows.length := hkr
          have hK0 : K = 0 := by have h7 := HK.out; rw [HKZ.out] at h7; exact h7.symm
          have HTR := Lib.hid (show trTo cla set (k + 1) = insAt rows kk s from by
            rw [HSk.out, HTK.out, hK0, if_pos (.inl rfl), HKZ.out])
          have g4 : decide ((0 : Int) < (kk : Int)) = false := decide_eq_false (by have := HKZ.out; omega)
          have g5 : ((kk : Int) == 0) = true := by rw [beq_iff_eq]; have := HKZ.out; omega
          have g6 : decide (0 < kk) = false := decide_eq_false hk0
          have g7 : (kk == 0) = true := by rw [beq_iff_eq]; exact HKZ.out
          have HBz := Lib.hid HMD.out
          generalize wx = wm at *
          have HSN := Lib.hid (HSN.out.below HBz.out)
          have HCL := Lib.hid (show ∀ j u, cs[j]? = some u → wm.cell? ⟨gl, j, none⟩ = some u from fun j u hj => cell_below HBz.out (HCL2.out j u hj) hgl2)
          have hgl : gl < wm.heap.size := Nat.lt_of_lt_of_le hgl2 HBz.out.size
          have HBM := Lib.hid (Below.refl wm.heap.size wm)
          have HWZ := Lib.hid (HW2.out.trans (HBz.out.mono HW2.out.size))
          have hcl : cs.length = rows.length := HCLN.out
          have k1 : (0 : Int) ≤ (kk : Int) := by omega
          clear HBM2 HMM HMD HCL2 hK0 hk0 HK
          go_wp2_with fail
          by_cases hk2 : cp = kk
          · have hk1 : kk ≤ cp := by omega
            have HKN := Lib.hid (show kk = rows.length by omega)
            have HCK := Lib.hid hk2
            obtain ⟨cq, hcq⟩ : ∃ cq : Nat, cq = cp := ⟨_, rfl⟩
            go_wp2_with fail
            refine wp_region_noPanic ?_
            refine wp_region_held_drew (S := fun w' => True) (by kernel_rfl) ?_ (fun hHeld => ?_)
            · exact trivial
            have hb : Below wm.heap.size wm wm.drew := (Below.refl _ _).drew
            generalize hwn : wm.drew = v11 at *
            clear hwn
            have sz11 : wm.heap.size ≤ v11.heap.size := hb.size
            have HBh11 := Lib.hid (HBM.out.trans (hb.mono (by have := HBM.out.size; omega)))
            clear hb
            refine wpAnyH_take (i := 1) (v := ?_) rfl (by kernel_rfl) (by kernel_rfl) (by kernel_rfl) (fun _ _ _ h => h) (Or.inl ⟨by rfl, ?_⟩) (by assumption) ?_
            rotate_left
            · intro w9 hSw; (try dsimp only at hSw); go_simp; try with_reducible rfl
            try simp only [List.getElem_toArray, List.getElem_cons_succ, List.getElem_cons_zero, Act.put, List.setIfInBounds_toArray, List.set_cons_zero, List.set_cons_succ]
            refine wpAnyH_take (i := 2) (v := ?_) rfl (by kernel_rfl) (by kernel_rfl) (by kernel_rfl) (fun _ _ _ h => h) (Or.inl ⟨by rfl, ?_⟩) (by assumption) ?_
            rotate_left
            · intro w9 hSw; (try dsimp only at hSw); go_simp; try with_reducible rfl
            try simp only [List.getElem_toArray, List.getElem_cons_succ, List.getElem_cons_zero, Act.put, List.setIfInBounds_toArray, List.set_cons_zero, List.set_cons_succ]
            refine wpAnyH_take (i := 3) (v := ?_) rfl (by kernel_rfl) (by kernel_rfl) (by kernel_rfl) (fun _ _ _ h => h) (Or.inl ⟨by rfl, ?_⟩) (by assumption) ?_
            rotate_left
            · intro w9 hSw; (try dsimp only at hSw); go_simp; try with_reducible rfl
            try simp only [List.getElem_toArray, List.getElem_cons_succ, List.getElem_cons_zero, Act.put, List.setIfInBounds_toArray, List.set_cons_zero, List.set_cons_succ]
            refine wpAnyH_take (i := 5) (v := ?_) rfl (by kernel_rfl) (by kernel_rfl) (by kernel_rfl) (fun _ _ _ h => h) (Or.inl ⟨by rfl, ?_⟩) (by assumption) ?_
            rotate_left
            · intro w9 hSw; (try dsimp only at hSw); go_simp; try with_reducible rfl
            try simp only [List.getElem_toArray, List.getElem_cons_succ, List.getElem_cons_zero, Act.put, List.setIfInBounds_toArray, List.set_cons_zero, List.set_cons_succ]
            refine wpAnyH_take (i := 8) (v := ?_) rfl (by kernel_rfl) (by kernel_rfl) (by kernel_rfl) (fun _ _ _ h => h) (Or.inl ⟨by rfl, ?_⟩) (by assumption) ?_
            rotate_left
            · intro w9 hSw; (try dsimp only at hSw); go_simp; try with_reducible rfl
            try simp only [List.getElem_toArray, List.getElem_cons_succ, List.getElem_cons_zero, Act.put, List.setIfInBounds_toArray, List.set_cons_zero, List.set_cons_succ]
            refine wpAnyH_take (i := 9) (v := ?_) rfl (by kernel_rfl) (by kernel_rfl) (by kernel_rfl) (fun _ _ _ h => h) (Or.inl ⟨by rfl, ?_⟩) (by assumption) ?_
            rotate_left
            · intro w9 hSw; (try dsimp only at hSw); go_simp; try with_reducible rfl
            try simp only [List.getElem_toArray, List.getElem_cons_succ, List.getElem_cons_zero, Act.put, List.setIfInBounds_toArray, List.set_cons_zero, List.set_cons_succ]
            refine wpAnyH_take (i := 10) (v := ?_) rfl (by kernel_rfl) (by kernel_rfl) (by kernel_rfl) (fun _ _ _ h => h) (Or.inl ⟨by rfl, ?_⟩) (by assumption) ?_
            rotate_left
            · intro w9 hSw; (try dsimp only at hSw); go_simp; try with_reducible rfl
            try simp only [List.getElem_toArray, List.getElem_cons_succ, List.getElem_cons_zero, Act.put, List.setIfInBounds_toArray, List.set_cons_zero, List.set_cons_succ]
            refine wpAnyH_ready (rs := [0, 6]) (by kernel_rfl) (by simp) ?_
            refine AllReadyH.cons rfl (fun K hK => ?_) ?_
            · skip
              clear hHeld
              go_simp
              have ho0 : (v11.alloc (.cells #[] 30)).ownsRow wm.heap.size 30 1 (.slice (some ⟨v11.heap.size, 0, none⟩) 0 0) 0 [] := World.ownsRow_made (base := wm.heap.size) (e := 30) (size := 1) v11 #[] 0 (by have := HBh11.out.size; omega) (by unfold maxLen; omega) rfl
              have hb := below_alloc v11 (.cells #[] 30)
              have lt_v0 := size_alloc' v11 (.cells #[] 30)
              obtain ⟨B0, hB0⟩ : ∃ B0 : Nat, B0 = v11.heap.size := ⟨_, rfl⟩
              rw [← hB0] at ho0 ⊢
              have hB0l : B0 ≤ v11.heap.size ∧ v11.heap.size ≤ B0 := by omega
              clear hB0
              generalize hwn : v11.alloc (.cells #[] 30) = v12 at *
              clear hwn
              have sz12 : v11.heap.size ≤ v12.heap.size := hb.size
              have HBh12 := Lib.hid (HBh11.out.trans (hb.mono (by have := HBh11.out.size; omega)))
              clear hb
              have HO0 := Lib.hid ho0
              clear ho0
              refine hK.out _ _ ?_ (fun hHeld => ?_)
              · exact trivial
              clear hK K
              try simp only [List.getElem_toArray, List.getElem_cons_succ, List.getElem_cons_zero, Act.put, List.setIfInBounds_toArray, List.set_cons_zero, List.set_cons_succ]
              refine wpAnyH_ready (rs := [4, 6]) (by kernel_rfl) (by simp) ?_
              refine AllReadyH.cons rfl (fun K hK => ?_) ?_
              · skip
                clear hHeld
                refine step_append_any rfl _ _ 22 rfl wm.heap.size 30 i0 (.slice none 0 0) 1 24 Try.underlying22 hi hz0 hz1 hz2 rfl (by decide) (Value.slice (some ⟨B0, 0, none⟩) 0 0) (0) ([]) (by rfl) HO0.out ⟨gl, 0, none⟩ kk kk (cs.take kk) (by rfl) (by rw [List.length_take]; omega) (fun j u hj => by rw [Go.WideShapes.add_plain, Nat.zero_add]; exact cell_below HBh12.out (HCL.out j u (take_some hj)) hgl) (fun u hu => HONE.out u (List.mem_of_mem_take hu)) (by unfold maxLen; omega) (by omega) (by have := HBh12.out.size; omega) ?_
                intro u1 v13 hown1 hg hat1
                have hrow : ∀ g, (Value.slice (some ⟨B0, 0, none⟩) 0 0).ownBlock = some g → wm.heap.size ≤ g := fun g e => (HO0.out.lt g e).1
                have sz13 : v12.heap.size ≤ v13.heap.size := hg.size
                have HBh13 := Lib.hid (HBh12.out.grown hg (by have := HBh12.out.size; omega) (fun g e => hrow g e))
                have HO1 := Lib.hid hown1
                clear hown1 hg hat1 hrow
                refine hK.out _ _ ?_ (fun hHeld => ?_)
                · exact trivial
                clear hK K
                try simp only [List.getElem_toArray, List.getElem_cons_succ, List.getElem_cons_zero, Act.put, List.setIfInBounds_toArray, List.set_cons_zero, List.set_cons_succ]
                refine wpAnyH_ready (rs := [6]) (by kernel_rfl) (by simp) ?_
                refine AllReadyH.cons rfl (fun K hK => ?_) AllReadyH.nil
                clear hHeld
                go_simp
                have nx_0 : (v13.alloc (.cells #[.slice sa s.length sc] 30)).cell? ⟨v13.heap.size, 0, none⟩ = some (.slice sa s.length sc) := cell_new _ _ _ rfl rfl
                have HNE1 := Lib.hid (show ∀ g, u1.ownBlock = some g → g ≠ v13.heap.size from fun g e => by have := (HO1.out.lt g e).2; omega)
                replace HO1 := Lib.hid (HO1.out.alloc (.cells #[.slice sa s.length sc] 30))
                have hb := below_alloc v13 (.cells #[.slice sa s.length sc] 30)
                have lt_nx := size_alloc' v13 (.cells #[.slice sa s.length sc] 30)
                obtain ⟨BN, hBN⟩ : ∃ BN : Nat, BN = v13.heap.size := ⟨_, rfl⟩
                rw [← hBN] at nx_0 HNE1 ⊢
                have hBNl : BN ≤ v13.heap.size ∧ v13.heap.size ≤ BN := by omega
                clear hBN
                generalize hwn : v13.alloc (.cells #[.slice sa s.length sc] 30) = v14 at *
                clear hwn
                have sz14 : v13.heap.size ≤ v14.heap.size := hb.size
                have HBh14 := Lib.hid (HBh13.out.trans (hb.mono (by have := HBh13.out.size; omega)))
                clear hb
                refine hK.out _ _ ?_ (fun hHeld => ?_)
                · exact trivial
                clear hK K
                try simp only [List.getElem_toArray, List.getElem_cons_succ, List.getElem_cons_zero, Act.put, List.setIfInBounds_toArray, List.set_cons_zero, List.set_cons_succ]
                refine wpAnyH_ready (rs := [7]) (by kernel_rfl) (by simp) ?_
                refine AllReadyH.cons rfl (fun K hK => ?_) AllReadyH.nil
                clear hHeld
                refine step_append_any rfl _ _ 22 rfl wm.heap.size 30 i0 (.slice none 0 0) 1 24 Try.underlying22 hi hz0 hz1 hz2 rfl (by decide) u1 (0 + kk) ([] ++ (cs.take kk)) (by rfl) HO1.out ⟨BN, 0, none⟩ 1 1 [.slice sa s.length sc] (by rfl) (by rfl) (fun j u hj => by (have h7 : j = 0 := by (have := (List.getElem?_eq_some_iff.1 hj).1; simp at this; exact this)); subst h7; simp at hj; subst hj; simpa [Addr.add] using nx_0) (by simp [Value.oneCell']) (by unfold maxLen; omega) (by omega) (by have := HBh14.out.size; omega) ?_
                intro u2 v15 hown2 hg hat2
                have nx_00 := nx_0
                have hnb : ∀ g, u1.ownBlock = some g → BN ≠ g := fun g e => Ne.symm (HNE1.out g e)
                have hrow : ∀ g, u1.ownBlock = some g → wm.heap.size ≤ g := fun g e => (HO1.out.lt g e).1
                have sz15 : v14.heap.size ≤ v15.heap.size := hg.size
                replace nx_0 := cell_grow hg nx_0 (fun g e => hnb g e)
                have HBh15 := Lib.hid (HBh14.out.grown hg (by have := HBh14.out.size; omega) (fun g e => hrow g e))
                have HO2 := Lib.hid hown2
                have HNE2 := Lib.hid (show ∀ g, u2.ownBlock = some g → g ≠ BN from fun g e => by (rcases hat2 with e2 | e2); (rw [e2] at e; exact HNE1.out g e); (have h7 : v14.heap.size = g := by (rw [e2] at e; simpa using e)); (have h8 := block_lt_of_cell (a := ⟨BN, 0, none⟩) nx_00); omega)
                clear hown2 hg hat2 hrow hnb
                clear nx_00
                refine hK.out _ _ ?_ (fun hHeld => ?_)
                · exact trivial
                clear hK K
                try simp only [List.getElem_toArray, List.getElem_cons_succ, List.getElem_cons_zero, Act.put, List.setIfInBounds_toArray, List.set_cons_zero, List.set_cons_succ]
                refine wpAnyH_ready (rs := [11]) (by kernel_rfl) (by simp) ?_
                refine AllReadyH.cons rfl (fun K hK => ?_) AllReadyH.nil
                clear hHeld
                refine step_append_any rfl _ _ 22 rfl wm.heap.size 30 i0 (.slice none 0 0) 1 24 Try.underlying22 hi hz0 hz1 hz2 rfl (by decide) u2 (0 + kk + 1) ([] ++ (cs.take kk) ++ [.slice sa s.length sc]) (by rfl) HO2.out ⟨gl, 0, none⟩ (rows.length - kk) 0 (cs.drop kk) (by rfl) (by rw [List.length_drop]; omega) (fun j u hj => by have h7 := (List.getElem?_eq_some_iff.1 hj).1; rw [List.length_drop] at h7; have := HKN.out; omega) (fun u hu => HONE.out u (List.mem_of_mem_drop hu)) (by unfold maxLen; omega) (by omega) (by have := HBh15.out.size; omega) ?_
                intro u3 v16 hown3 hg hat3
                have nx_00 := nx_0
                have hnb : ∀ g, u2.ownBlock = some g → BN ≠ g := fun g e => Ne.symm (HNE2.out g e)
                have hrow : ∀ g, u2.ownBlock = some g → wm.heap.size ≤ g := fun g e => (HO2.out.lt g e).1
                have sz16 : v15.heap.size ≤ v16.heap.size := hg.size
                replace nx_0 := cell_grow hg nx_0 (fun g e => hnb g e)
                have HBh16 := Lib.hid (HBh15.out.grown hg (by have := HBh15.out.size; omega) (fun g e => hrow g e))
                have HO3 := Lib.hid hown3
                have HNE3 := Lib.hid (show ∀ g, u3.ownBlock = some g → g ≠ BN from fun g e => by (rcases hat3 with e2 | e2); (rw [e2] at e; exact HNE2.out g e); (have h7 : v15.heap.size = g := by (rw [e2] at e; simpa using e)); (have h8 := block_lt_of_cell (a := ⟨BN, 0, none⟩) nx_00); omega)
                clear hown3 hg hat3 hrow hnb
                clear nx_00
                refine hK.out _ _ ?_ (fun hHeld => ?_)
                · exact trivial
                clear hK K
                try simp only [List.getElem_toArray, List.getElem_cons_succ, List.getElem_cons_zero, Act.put, List.setIfInBounds_toArray, List.set_cons_zero, List.set_cons_succ]
                refine wpAnyH_take (i := 12) (v := ?_) rfl (by kernel_rfl) (by kernel_rfl) (by kernel_rfl) (fun _ _ _ h => h) (Or.inl ⟨by rfl, ?_⟩) (by assumption) ?_
                rotate_left
                · intro w9 hSw; (try dsimp only at hSw); go_simp; try with_reducible rfl
                try simp only [List.getElem_toArray, List.getElem_cons_succ, List.getElem_cons_zero, Act.put, List.setIfInBounds_toArray, List.set_cons_zero, List.set_cons_succ]
                refine wpAnyH_done (by kernel_rfl) ?_ _
                refine NoPanic.normal ?_
                clear hHeld
                have hfin : v16.ownsRow wm.heap.size 30 1 u3 (rows.length + 1) (insAt cs kk (.slice sa s.length sc)) := by
                  have h7 := HO3.out
                  rw [show 0 + kk + 1 + (rows.length - kk) = rows.length + 1 by omega] at h7
                  simpa [insAt, List.append_assoc] using h7
                obtain ⟨gn, cn, hun, hgn⟩ := setsn.own_form hfin (by omega)
                subst hun
                have hrn := (rows_ins ((HSN.out).below HBh16.out) HCLN.out kk (by rw [HCLN.out]; omega)).mono (Nat.le_refl _) (Nat.le_trans HBz.out.size HBh16.out.size)
                have hfin2 := ownsRow_base (lo' := w.heap.size) hfin (fun g e => Nat.le_trans HWZ.out.size (hfin.lt g e).1)
                have HFN := Lib.hid hfin2
                have HRN := Lib.hid hrn
                have HBN := Lib.hid (HWZ.out.trans (HBh16.out.mono HWZ.out.size))
                clear hfin hfin2 hrn
                go_wp2_with fail
                go_roundw
                case rel => exact ⟨k + 1, gn, cn, insAt cs kk (.slice sa s.length sc), by omega, by go_num, by rw [HTR.out, insAt_length _ _ _ (by omega)], by rw [HTR.out, insAt_length _ _ _ (by omega)]; exact HFN.out, by rw [HTR.out]; exact HRN.out, HBN.out⟩
                case measure => simp [intOf]; omega
              refine AllReadyH.cons rfl (fun K hK => ?_) AllReadyH.nil
              clear hHeld
              go_simp
              have nx_0 : (v12.alloc (.cells #[.slice sa s.length sc] 30)).cell? ⟨v12.heap.size, 0, none⟩ = some (.slice sa s.length sc) := cell_new _ _ _ rfl rfl
              have HNE0 := Lib.hid (show ∀ g, (Value.slice (some ⟨B0, 0, none⟩) 0 0).ownBlock = some g → g ≠ v12.heap.size from fun g e => by have := (HO0.out.lt g e).2; omega)
              replace HO0 := Lib.hid (HO0.out.alloc (.cells #[.slice sa s.length sc] 30))
              have hb := below_alloc v12 (.cells #[.slice sa s.length sc] 30)
              have lt_nx := size_alloc' v12 (.cells #[.slice sa s.length sc] 30)
              obtain ⟨BN, hBN⟩ : ∃ BN : Nat, BN = v12.heap.size := ⟨_, rfl⟩
              rw [← hBN] at nx_0 HNE0 ⊢
              have hBNl : BN ≤ v12.heap.size ∧ v12.heap.size ≤ BN := by omega
              clear hBN
              generalize hwn : v12.alloc (.cells #[.slice sa s.length sc] 30) = v13 at *
              clear hwn
              have sz13 : v12.heap.size ≤ v13.heap.size := hb.size
              have HBh13 := Lib.hid (HBh12.out.trans (hb.mono (by have := HBh12.out.size; omega)))
              clear hb
              refine hK.out _ _ ?_ (fun hHeld => ?_)
              · exact trivial
              clear hK K
              try simp only [List.getElem_toArray, List.getElem_cons_succ, List.getElem_cons_zero, Act.put, List.setIfInBounds_toArray, List.set_cons_zero, List.set_cons_succ]
              refine wpAnyH_ready (rs := [4]) (by kernel_rfl) (by simp) ?_
              refine AllReadyH.cons rfl (fun K hK => ?_) AllReadyH.nil
              clear hHeld
              refine step_append_any rfl _ _ 22 rfl wm.heap.size 30 i0 (.slice none 0 0) 1 24 Try.underlying22 hi hz0 hz1 hz2 rfl (by decide) (Value.slice (some ⟨B0, 0, none⟩) 0 0) (0) ([]) (by rfl) HO0.out ⟨gl, 0, none⟩ kk kk (cs.take kk) (by rfl) (by rw [List.length_take]; omega) (fun j u hj => by rw [Go.WideShapes.add_plain, Nat.zero_add]; exact cell_below HBh13.out (HCL.out j u (take_some hj)) hgl) (fun u hu => HONE.out u (List.mem_of_mem_take hu)) (by unfold maxLen; omega) (by omega) (by have := HBh13.out.size; omega) ?_
              intro u1 v14 hown1 hg hat1
              have nx_00 := nx_0
              have hnb : ∀ g, (Value.slice (some ⟨B0, 0, none⟩) 0 0).ownBlock = some g → BN ≠ g := fun g e => Ne.symm (HNE0.out g e)
              have hrow : ∀ g, (Value.slice (some ⟨B0, 0, none⟩) 0 0).ownBlock = some g → wm.heap.size ≤ g := fun g e => (HO0.out.lt g e).1
              have sz14 : v13.heap.size ≤ v14.heap.size := hg.size
              replace nx_0 := cell_grow hg nx_0 (fun g e => hnb g e)
              have HBh14 := Lib.hid (HBh13.out.grown hg (by have := HBh13.out.size; omega) (fun g e => hrow g e))
              have HO1 := Lib.hid hown1
              have HNE1 := Lib.hid (show ∀ g, u1.ownBlock = some g → g ≠ BN from fun g e => by (rcases hat1 with e2 | e2); (rw [e2] at e; exact HNE0.out g e); (have h7 : v13.heap.size = g := by (rw [e2] at e; simpa using e)); (have h8 := block_lt_of_cell (a := ⟨BN, 0, none⟩) nx_00); omega)
              clear hown1 hg hat1 hrow hnb
              clear nx_00
              refine hK.out _ _ ?_ (fun hHeld => ?_)
              · exact trivial
              clear hK K
              try simp only [List.getElem_toArray, List.getElem_cons_succ, List.getElem_cons_zero, Act.put, List.setIfInBounds_toArray, List.set_cons_zero, List.set_cons_succ]
              refine wpAnyH_ready (rs := [7]) (by kernel_rfl) (by simp) ?_
              refine AllReadyH.cons rfl (fun K hK => ?_) AllReadyH.nil
              clear hHeld
              refine step_append_any rfl _ _ 22 rfl wm.heap.size 30 i0 (.slice none 0 0) 1 24 Try.underlying22 hi hz0 hz1 hz2 rfl (by decide) u1 (0 + kk) ([] ++ (cs.take kk)) (by rfl) HO1.out ⟨BN, 0, none⟩ 1 1 [.slice sa s.length sc] (by rfl) (by rfl) (fun j u hj => by (have h7 : j = 0 := by (have := (List.getElem?_eq_some_iff.1 hj).1; simp at this; exact this)); subst h7; simp at hj; subst hj; simpa [Addr.add] using nx_0) (by simp [Value.oneCell']) (by unfold maxLen; omega) (by omega) (by have := HBh14.out.size; omega) ?_
              intro u2 v15 hown2 hg hat2
              have nx_00 := nx_0
              have hnb : ∀ g, u1.ownBlock = some g → BN ≠ g := fun g e => Ne.symm (HNE1.out g e)
              have hrow : ∀ g, u1.ownBlock = some g → wm.heap.size ≤ g := fun g e => (HO1.out.lt g e).1
              have sz15 : v14.heap.size ≤ v15.heap.size := hg.size
              replace nx_0 := cell_grow hg nx_0 (fun g e => hnb g e)
              have HBh15 := Lib.hid (HBh14.out.grown hg (by have := HBh14.out.size; omega) (fun g e => hrow g e))
              have HO2 := Lib.hid hown2
              have HNE2 := Lib.hid (show ∀ g, u2.ownBlock = some g → g ≠ BN from fun g e => by (rcases hat2 with e2 | e2); (rw [e2] at e; exact HNE1.out g e); (have h7 : v14.heap.size = g := by (rw [e2] at e; simpa using e)); (have h8 := block_lt_of_cell (a := ⟨BN, 0, none⟩) nx_00); omega)
              clear hown2 hg hat2 hrow hnb
              clear nx_00
              refine hK.out _ _ ?_ (fun hHeld => ?_)
              · exact trivial
              clear hK K
              try simp only [List.getElem_toArray, List.getElem_cons_succ, List.getElem_cons_zero, Act.put, List.setIfInBounds_toArray, List.set_cons_zero, List.set_cons_succ]
              refine wpAnyH_ready (rs := [11]) (by kernel_rfl) (by simp) ?_
              refine AllReadyH.cons rfl (fun K hK => ?_) AllReadyH.nil
              clear hHeld
              refine step_append_any rfl _ _ 22 rfl wm.heap.size 30 i0 (.slice none 0 0) 1 24 Try.underlying22 hi hz0 hz1 hz2 rfl (by decide) u2 (0 + kk + 1) ([] ++ (cs.take kk) ++ [.slice sa s.length sc]) (by rfl) HO2.out ⟨gl, 0, none⟩ (rows.length - kk) 0 (cs.drop kk) (by rfl) (by rw [List.length_drop]; omega) (fun j u hj => by have h7 := (List.getElem?_eq_some_iff.1 hj).1; rw [List.length_drop] at h7; have := HKN.out; omega) (fun u hu => HONE.out u (List.mem_of_mem_drop hu)) (by unfold maxLen; omega) (by omega) (by have := HBh15.out.size; omega) ?_
              intro u3 v16 hown3 hg hat3
              have nx_00 := nx_0
              have hnb : ∀ g, u2.ownBlock = some g → BN ≠ g := fun g e => Ne.symm (HNE2.out g e)
              have hrow : ∀ g, u2.ownBlock = some g → wm.heap.size ≤ g := fun g e => (HO2.out.lt g e).1
              have sz16 : v15.heap.size ≤ v16.heap.size := hg.size
              replace nx_0 := cell_grow hg nx_0 (fun g e => hnb g e)
              have HBh16 := Lib.hid (HBh15.out.grown hg (by have := HBh15.out.size; omega) (fun g e => hrow g e))
              have HO3 := Lib.hid hown3
              have HNE3 := Lib.hid (show ∀ g, u3.ownBlock = some g → g ≠ BN from fun g e => by (rcases hat3 with e2 | e2); (rw [e2] at e; exact HNE2.out g e); (have h7 : v15.heap.size = g := by (rw [e2] at e; simpa using e)); (have h8 := block_lt_of_cell (a := ⟨BN, 0, none⟩) nx_00); omega)
              clear hown3 hg hat3 hrow hnb
              clear nx_00
              refine hK.out _ _ ?_ (fun hHeld => ?_)
              · exact trivial
              clear hK K
              try simp only [List.getElem_toArray, List.getElem_cons_succ, List.getElem_cons_zero, Act.put, List.setIfInBounds_toArray, List.set_cons_zero, List.set_cons_succ]
              refine wpAnyH_take (i := 12) (v := ?_) rfl (by kernel_rfl) (by kernel_rfl) (by kernel_rfl) (fun _ _ _ h => h) (Or.inl ⟨by rfl, ?_⟩) (by assumption) ?_
              rotate_left
              · intro w9 hSw; (try dsimp only at hSw); go_simp; try with_reducible rfl
              try simp only [List.getElem_toArray, List.getElem_cons_succ, List.getElem_cons_zero, Act.put, List.setIfInBounds_toArray, List.set_cons_zero, List.set_cons_succ]
              refine wpAnyH_done (by kernel_rfl) ?_ _
              refine NoPanic.normal ?_
              clear hHeld
              have hfin : v16.ownsRow wm.heap.size 30 1 u3 (rows.length + 1) (insAt cs kk (.slice sa s.length sc)) := by
                have h7 := HO3.out
                rw [show 0 + kk + 1 + (rows.length - kk) = rows.length + 1 by omega] at h7
                simpa [insAt, List.append_assoc] using h7
              obtain ⟨gn, cn, hun, hgn⟩ := setsn.own_form hfin (by omega)
              subst hun
              have hrn := (rows_ins ((HSN.out).below HBh16.out) HCLN.out kk (by rw [HCLN.out]; omega)).mono (Nat.le_refl _) (Nat.le_trans HBz.out.size HBh16.out.size)
              have hfin2 := ownsRow_base (lo' := w.heap.size) hfin (fun g e => Nat.le_trans HWZ.out.size (hfin.lt g e).1)
              have HFN := Lib.hid hfin2
              have HRN := Lib.hid hrn
              have HBN := Lib.hid (HWZ.out.trans (HBh16.out.mono HWZ.out.size))
              clear hfin hfin2 hrn
              go_wp2_with fail
              go_roundw
              case rel => exact ⟨k + 1, gn, cn, insAt cs kk (.slice sa s.length sc), by omega, by go_num, by rw [HTR.out, insAt_length _ _ _ (by omega)], by rw [HTR.out, insAt_length _ _ _ (by omega)]; exact HFN.out, by rw [HTR.out]; exact HRN.out, HBN.out⟩
              case measure => simp [intOf]; omega
            refine AllReadyH.cons rfl (fun K hK => ?_) AllReadyH.nil
            clear hHeld
            go_simp
            have nx_0 : (v11.alloc (.cells #[.slice sa s.length sc] 30)).cell? ⟨v11.heap.size, 0, none⟩ = some (.slice sa s.length sc) := cell_new _ _ _ rfl rfl
            have hb := below_alloc v11 (.cells #[.slice sa s.length sc] 30)
            have lt_nx := size_alloc' v11 (.cells #[.slice sa s.length sc] 30)
            obtain ⟨BN, hBN⟩ : ∃ BN : Nat, BN = v11.heap.size := ⟨_, rfl⟩
            rw [← hBN] at nx_0  ⊢
            have hBNl : BN ≤ v11.heap.size ∧ v11.heap.size ≤ BN := by omega
            clear hBN
            generalize hwn : v11.alloc (.cells #[.slice sa s.length sc] 30) = v12 at *
            clear hwn
            have sz12 : v11.heap.size ≤ v12.heap.size := hb.size
            have HBh12 := Lib.hid (HBh11.out.trans (hb.mono (by have := HBh11.out.size; omega)))
            clear hb
            refine hK.out _ _ ?_ (fun hHeld => ?_)
            · exact trivial
            clear hK K
            try simp only [List.getElem_toArray, List.getElem_cons_succ, List.getElem_cons_zero, Act.put, List.setIfInBounds_toArray, List.set_cons_zero, List.set_cons_succ]
            refine wpAnyH_ready (rs := [0]) (by kernel_rfl) (by simp) ?_
            refine AllReadyH.cons rfl (fun K hK => ?_) AllReadyH.nil
            clear hHeld
            go_simp
            have ho0 : (v12.alloc (.cells #[] 30)).ownsRow wm.heap.size 30 1 (.slice (some ⟨v12.heap.size, 0, none⟩) 0 0) 0 [] := World.ownsRow_made (base := wm.heap.size) (e := 30) (size := 1) v12 #[] 0 (by have := HBh12.out.size; omega) (by unfold maxLen; omega) rfl
            have hb := below_alloc v12 (.cells #[] 30)
            have lt_v0 := size_alloc' v12 (.cells #[] 30)
            have hne0 : BN ≠ v12.heap.size := by omega
            obtain ⟨B0, hB0⟩ : ∃ B0 : Nat, B0 = v12.heap.size := ⟨_, rfl⟩
            rw [← hB0] at ho0 ⊢
            have hB0l : B0 ≤ v12.heap.size ∧ v12.heap.size ≤ B0 := by omega
            clear hB0
            generalize hwn : v12.alloc (.cells #[] 30) = v13 at *
            clear hwn
            have sz13 : v12.heap.size ≤ v13.heap.size := hb.size
            replace nx_0 := cell_keep hb nx_0
            have HBh13 := Lib.hid (HBh12.out.trans (hb.mono (by have := HBh12.out.size; omega)))
            clear hb
            have HO0 := Lib.hid ho0
            clear ho0
            have HNE0 := Lib.hid (show ∀ g, (Value.slice (some ⟨B0, 0, none⟩) 0 0).ownBlock = some g → g ≠ BN from fun g e => by (have e2 : B0 = g := by simpa [Value.ownBlock] using e); omega)
            refine hK.out _ _ ?_ (fun hHeld => ?_)
            · exact trivial
            clear hK K
            try simp only [List.getElem_toArray, List.getElem_cons_succ, List.getElem_cons_zero, Act.put, List.setIfInBounds_toArray, List.set_cons_zero, List.set_cons_succ]
            refine wpAnyH_ready (rs := [4]) (by kernel_rfl) (by simp) ?_
            refine AllReadyH.cons rfl (fun K hK => ?_) AllReadyH.nil
            clear hHeld
            refine step_append_any rfl _ _ 22 rfl wm.heap.size 30 i0 (.slice none 0 0) 1 24 Try.underlying22 hi hz0 hz1 hz2 rfl (by decide) (Value.slice (some ⟨B0, 0, none⟩) 0 0) (0) ([]) (by rfl) HO0.out ⟨gl, 0, none⟩ kk kk (cs.take kk) (by rfl) (by rw [List.length_take]; omega) (fun j u hj => by rw [Go.WideShapes.add_plain, Nat.zero_add]; exact cell_below HBh13.out (HCL.out j u (take_some hj)) hgl) (fun u hu => HONE.out u (List.mem_of_mem_take hu)) (by unfold maxLen; omega) (by omega) (by have := HBh13.out.size; omega) ?_
            intro u1 v14 hown1 hg hat1
            have nx_00 := nx_0
            have hnb : ∀ g, (Value.slice (some ⟨B0, 0, none⟩) 0 0).ownBlock = some g → BN ≠ g := fun g e => Ne.symm (HNE0.out g e)
            have hrow : ∀ g, (Value.slice (some ⟨B0, 0, none⟩) 0 0).ownBlock = some g → wm.heap.size ≤ g := fun g e => (HO0.out.lt g e).1
            have sz14 : v13.heap.size ≤ v14.heap.size := hg.size
            replace nx_0 := cell_grow hg nx_0 (fun g e => hnb g e)
            have HBh14 := Lib.hid (HBh13.out.grown hg (by have := HBh13.out.size; omega) (fun g e => hrow g e))
            have HO1 := Lib.hid hown1
            have HNE1 := Lib.hid (show ∀ g, u1.ownBlock = some g → g ≠ BN from fun g e => by (rcases hat1 with e2 | e2); (rw [e2] at e; exact HNE0.out g e); (have h7 : v13.heap.size = g := by (rw [e2] at e; simpa using e)); (have h8 := block_lt_of_cell (a := ⟨BN, 0, none⟩) nx_00); omega)
            clear hown1 hg hat1 hrow hnb
            clear nx_00
            refine hK.out _ _ ?_ (fun hHeld => ?_)
            · exact trivial
            clear hK K
            try simp only [List.getElem_toArray, List.getElem_cons_succ, List.getElem_cons_zero, Act.put, List.setIfInBounds_toArray, List.set_cons_zero, List.set_cons_succ]
            refine wpAnyH_ready (rs := [7]) (by kernel_rfl) (by simp) ?_
            refine AllReadyH.cons rfl (fun K hK => ?_) AllReadyH.nil
            clear hHeld
            refine step_append_any rfl _ _ 22 rfl wm.heap.size 30 i0 (.slice none 0 0) 1 24 Try.underlying22 hi hz0 hz1 hz2 rfl (by decide) u1 (0 + kk) ([] ++ (cs.take kk)) (by rfl) HO1.out ⟨BN, 0, none⟩ 1 1 [.slice sa s.length sc] (by rfl) (by rfl) (fun j u hj => by (have h7 : j = 0 := by (have := (List.getElem?_eq_some_iff.1 hj).1; simp at this; exact this)); subst h7; simp at hj; subst hj; simpa [Addr.add] using nx_0) (by simp [Value.oneCell']) (by unfold maxLen; omega) (by omega) (by have := HBh14.out.size; omega) ?_
            intro u2 v15 hown2 hg hat2
            have nx_00 := nx_0
            have hnb : ∀ g, u1.ownBlock = some g → BN ≠ g := fun g e => Ne.symm (HNE1.out g e)
            have hrow : ∀ g, u1.ownBlock = some g → wm.heap.size ≤ g := fun g e => (HO1.out.lt g e).1
            have sz15 : v14.heap.size ≤ v15.heap.size := hg.size
            replace nx_0 := cell_grow hg nx_0 (fun g e => hnb g e)
            have HBh15 := Lib.hid (HBh14.out.grown hg (by have := HBh14.out.size; omega) (fun g e => hrow g e))
            have HO2 := Lib.hid hown2
            have HNE2 := Lib.hid (show ∀ g, u2.ownBlock = some g → g ≠ BN from fun g e => by (rcases hat2 with e2 | e2); (rw [e2] at e; exact HNE1.out g e); (have h7 : v14.heap.size = g := by (rw [e2] at e; simpa using e)); (have h8 := block_lt_of_cell (a := ⟨BN, 0, none⟩) nx_00); omega)
            clear hown2 hg hat2 hrow hnb
            clear nx_00
            refine hK.out _ _ ?_ (fun hHeld => ?_)
            · exact trivial
            clear hK K
            try simp only [List.getElem_toArray, List.getElem_cons_succ, List.getElem_cons_zero, Act.put, List.setIfInBounds_toArray, List.set_cons_zero, List.set_cons_succ]
            refine wpAnyH_ready (rs := [11]) (by kernel_rfl) (by simp) ?_
            refine AllReadyH.cons rfl (fun K hK => ?_) AllReadyH.nil
            clear hHeld
            refine step_append_any rfl _ _ 22 rfl wm.heap.size 30 i0 (.slice none 0 0) 1 24 Try.underlying22 hi hz0 hz1 hz2 rfl (by decide) u2 (0 + kk + 1) ([] ++ (cs.take kk) ++ [.slice sa s.length sc]) (by rfl) HO2.out ⟨gl, 0, none⟩ (rows.length - kk) 0 (cs.drop kk) (by rfl) (by rw [List.length_drop]; omega) (fun j u hj => by have h7 := (List.getElem?_eq_some_iff.1 hj).1; rw [List.length_drop] at h7; have := HKN.out; omega) (fun u hu => HONE.out u (List.mem_of_mem_drop hu)) (by unfold maxLen; omega) (by omega) (by have := HBh15.out.size; omega) ?_
            intro u3 v16 hown3 hg hat3
            have nx_00 := nx_0
            have hnb : ∀ g, u2.ownBlock = some g → BN ≠ g := fun g e => Ne.symm (HNE2.out g e)
            have hrow : ∀ g, u2.ownBlock = some g → wm.heap.size ≤ g := fun g e => (HO2.out.lt g e).1
            have sz16 : v15.heap.size ≤ v16.heap.size := hg.size
            replace nx_0 := cell_grow hg nx_0 (fun g e => hnb g e)
            have HBh16 := Lib.hid (HBh15.out.grown hg (by have := HBh15.out.size; omega) (fun g e => hrow g e))
            have HO3 := Lib.hid hown3
            have HNE3 := Lib.hid (show ∀ g, u3.ownBlock = some g → g ≠ BN from fun g e => by (rcases hat3 with e2 | e2); (rw [e2] at e; exact HNE2.out g e); (have h7 : v15.heap.size = g := by (rw [e2] at e; simpa using e)); (have h8 := block_lt_of_cell (a := ⟨BN, 0, none⟩) nx_00); omega)
            clear hown3 hg hat3 hrow hnb
            clear nx_00
            refine hK.out _ _ ?_ (fun hHeld => ?_)
            · exact trivial
            clear hK K
            try simp only [List.getElem_toArray, List.getElem_cons_succ, List.getElem_cons_zero, Act.put, List.setIfInBounds_toArray, List.set_cons_zero, List.set_cons_succ]
            refine wpAnyH_take (i := 12) (v := ?_) rfl (by kernel_rfl) (by kernel_rfl) (by kernel_rfl) (fun _ _ _ h => h) (Or.inl ⟨by rfl, ?_⟩) (by assumption) ?_
            rotate_left
            · intro w9 hSw; (try dsimp only at hSw); go_simp; try with_reducible rfl
            try simp only [List.getElem_toArray, List.getElem_cons_succ, List.getElem_cons_zero, Act.put, List.setIfInBounds_toArray, List.set_cons_zero, List.set_cons_succ]
            refine wpAnyH_done (by kernel_rfl) ?_ _
            refine NoPanic.normal ?_
            clear hHeld
            have hfin : v16.ownsRow wm.heap.size 30 1 u3 (rows.length + 1) (insAt cs kk (.slice sa s.length sc)) := by
              have h7 := HO3.out
              rw [show 0 + kk + 1 + (rows.length - kk) = rows.length + 1 by omega] at h7
              simpa [insAt, List.append_assoc] using h7
            obtain ⟨gn, cn, hun, hgn⟩ := setsn.own_form hfin (by omega)
            subst hun
            have hrn := (rows_ins ((HSN.out).below HBh16.out) HCLN.out kk (by rw [HCLN.out]; omega)).mono (Nat.le_refl _) (Nat.le_trans HBz.out.size HBh16.out.size)
            have hfin2 := ownsRow_base (lo' := w.heap.size) hfin (fun g e => Nat.le_trans HWZ.out.size (hfin.lt g e).1)
            have HFN := Lib.hid hfin2
            have HRN := Lib.hid hrn
            have HBN := Lib.hid (HWZ.out.trans (HBh16.out.mono HWZ.out.size))
            clear hfin hfin2 hrn
            go_wp2_with fail
            go_roundw
            case rel => exact ⟨k + 1, gn, cn, insAt cs kk (.slice sa s.length sc), by omega, by go_num, by rw [HTR.out, insAt_length _ _ _ (by omega)], by rw [HTR.out, insAt_length _ _ _ (by omega)]; exact HFN.out, by rw [HTR.out]; exact HRN.out, HBN.out⟩
            case measure => simp [intOf]; omega
          · have hk1 : kk ≤ cp := by omega
            go_wp2_with fail
            refine wp_region_noPanic ?_
            refine wp_region_held_drew (S := fun w' => True) (by kernel_rfl) ?_ (fun hHeld => ?_)
            · exact trivial
            have hb : Below wm.heap.size wm wm.drew := (Below.refl _ _).drew
            generalize hwn : wm.drew = v11 at *
            clear hwn
            have sz11 : wm.heap.size ≤ v11.heap.size := hb.size
            have HBh11 := Lib.hid (HBM.out.trans (hb.mono (by have := HBM.out.size; omega)))
            clear hb
            refine wpAnyH_take (i := 1) (v := ?_) rfl (by kernel_rfl) (by kernel_rfl) (by kernel_rfl) (fun _ _ _ h => h) (Or.inl ⟨by rfl, ?_⟩) (by assumption) ?_
            rotate_left
            · intro w9 hSw; (try dsimp only at hSw); go_simp; try with_reducible rfl
            try simp only [List.getElem_toArray, List.getElem_cons_succ, List.getElem_cons_zero, Act.put, List.setIfInBounds_toArray, List.set_cons_zero, List.set_cons_succ]
            refine wpAnyH_take (i := 2) (v := ?_) rfl (by kernel_rfl) (by kernel_rfl) (by kernel_rfl) (fun _ _ _ h => h) (Or.inl ⟨by rfl, ?_⟩) (by assumption) ?_
            rotate_left
            · intro w9 hSw; (try dsimp only at hSw); go_simp; try with_reducible rfl
            try simp only [List.getElem_toArray, List.getElem_cons_succ, List.getElem_cons_zero, Act.put, List.setIfInBounds_toArray, List.set_cons_zero, List.set_cons_succ]
            refine wpAnyH_take (i := 3) (v := ?_) rfl (by kernel_rfl) (by kernel_rfl) (by kernel_rfl) (fun _ _ _ h => h) (Or.inl ⟨by rfl, ?_⟩) (by assumption) ?_
            rotate_left
            · intro w9 hSw; (try dsimp only at hSw); go_simp; try with_reducible rfl
            try simp only [List.getElem_toArray, List.getElem_cons_succ, List.getElem_cons_zero, Act.put, List.setIfInBounds_toArray, List.set_cons_zero, List.set_cons_succ]
            refine wpAnyH_take (i := 5) (v := ?_) rfl (by kernel_rfl) (by kernel_rfl) (by kernel_rfl) (fun _ _ _ h => h) (Or.inl ⟨by rfl, ?_⟩) (by assumption) ?_
            rotate_left
            · intro w9 hSw; (try dsimp only at hSw); go_simp; try with_reducible rfl
            try simp only [List.getElem_toArray, List.getElem_cons_succ, List.getElem_cons_zero, Act.put, List.setIfInBounds_toArray, List.set_cons_zero, List.set_cons_succ]
            refine wpAnyH_take (i := 8) (v := ?_) rfl (by kernel_rfl) (by kernel_rfl) (by kernel_rfl) (fun _ _ _ h => h) (Or.inl ⟨by rfl, ?_⟩) (by assumption) ?_
            rotate_left
            · intro w9 hSw; (try dsimp only at hSw); go_simp; try with_reducible rfl
            try simp only [List.getElem_toArray, List.getElem_cons_succ, List.getElem_cons_zero, Act.put, List.setIfInBounds_toArray, List.set_cons_zero, List.set_cons_succ]
            refine wpAnyH_take (i := 9) (v := ?_) rfl (by kernel_rfl) (by kernel_rfl) (by kernel_rfl) (fun _ _ _ h => h) (Or.inl ⟨by rfl, ?_⟩) (by assumption) ?_
            rotate_left
            · intro w9 hSw; (try dsimp only at hSw); go_simp; try with_reducible rfl
            try simp only [List.getElem_toArray, List.getElem_cons_succ, List.getElem_cons_zero, Act.put, List.setIfInBounds_toArray, List.set_cons_zero, List.set_cons_succ]
            refine wpAnyH_take (i := 10) (v := ?_) rfl (by kernel_rfl) (by kernel_rfl) (by kernel_rfl) (fun _ _ _ h => h) (Or.inl ⟨by rfl, ?_⟩) (by assumption) ?_
            rotate_left
            · intro w9 hSw; (try dsimp only at hSw); go_simp; try with_reducible rfl
            try simp only [List.getElem_toArray, List.getElem_cons_succ, List.getElem_cons_zero, Act.put, List.setIfInBounds_toArray, List.set_cons_zero, List.set_cons_succ]
            refine wpAnyH_ready (rs := [0, 6]) (by kernel_rfl) (by simp) ?_
            refine AllReadyH.cons rfl (fun K hK => ?_) ?_
            · skip
              clear hHeld
              go_simp
              have ho0 : (v11.alloc (.cells #[] 30)).ownsRow wm.heap.size 30 1 (.slice (some ⟨v11.heap.size, 0, none⟩) 0 0) 0 [] := World.ownsRow_made (base := wm.heap.size) (e := 30) (size := 1) v11 #[] 0 (by have := HBh11.out.size; omega) (by unfold maxLen; omega) rfl
              have hb := below_alloc v11 (.cells #[] 30)
              have lt_v0 := size_alloc' v11 (.cells #[] 30)
              obtain ⟨B0, hB0⟩ : ∃ B0 : Nat, B0 = v11.heap.size := ⟨_, rfl⟩
              rw [← hB0] at ho0 ⊢
              have hB0l : B0 ≤ v11.heap.size ∧ v11.heap.size ≤ B0 := by omega
              clear hB0
              generalize hwn : v11.alloc (.cells #[] 30) = v12 at *
              clear hwn
              have sz12 : v11.heap.size ≤ v12.heap.size := hb.size
              have HBh12 := Lib.hid (HBh11.out.trans (hb.mono (by have := HBh11.out.size; omega)))
              clear hb
              have HO0 := Lib.hid ho0
              clear ho0
              refine hK.out _ _ ?_ (fun hHeld => ?_)
              · exact trivial
              clear hK K
              try simp only [List.getElem_toArray, List.getElem_cons_succ, List.getElem_cons_zero, Act.put, List.setIfInBounds_toArray, List.set_cons_zero, List.set_cons_succ]
              refine wpAnyH_ready (rs := [4, 6]) (by kernel_rfl) (by simp) ?_
              refine AllReadyH.cons rfl (fun K hK => ?_) ?_
              · skip
                clear hHeld
                refine step_append_any rfl _ _ 22 rfl wm.heap.size 30 i0 (.slice none 0 0) 1 24 Try.underlying22 hi hz0 hz1 hz2 rfl (by decide) (Value.slice (some ⟨B0, 0, none⟩) 0 0) (0) ([]) (by rfl) HO0.out ⟨gl, 0, none⟩ kk cp (cs.take kk) (by rfl) (by rw [List.length_take]; omega) (fun j u hj => by rw [Go.WideShapes.add_plain, Nat.zero_add]; exact cell_below HBh12.out (HCL.out j u (take_some hj)) hgl) (fun u hu => HONE.out u (List.mem_of_mem_take hu)) (by unfold maxLen; omega) (by omega) (by have := HBh12.out.size; omega) ?_
                intro u1 v13 hown1 hg hat1
                have hrow : ∀ g, (Value.slice (some ⟨B0, 0, none⟩) 0 0).ownBlock = some g → wm.heap.size ≤ g := fun g e => (HO0.out.lt g e).1
                have sz13 : v12.heap.size ≤ v13.heap.size := hg.size
                have HBh13 := Lib.hid (HBh12.out.grown hg (by have := HBh12.out.size; omega) (fun g e => hrow g e))
                have HO1 := Lib.hid hown1
                clear hown1 hg hat1 hrow
                refine hK.out _ _ ?_ (fun hHeld => ?_)
                · exact trivial
                clear hK K
                try simp only [List.getElem_toArray, List.getElem_cons_succ, List.getElem_cons_zero, Act.put, List.setIfInBounds_toArray, List.set_cons_zero, List.set_cons_succ]
                refine wpAnyH_ready (rs := [6]) (by kernel_rfl) (by simp) ?_
                refine AllReadyH.cons rfl (fun K hK => ?_) AllReadyH.nil
                clear hHeld
                go_simp
                have nx_0 : (v13.alloc (.cells #[.slice sa s.length sc] 30)).cell? ⟨v13.heap.size, 0, none⟩ = some (.slice sa s.length sc) := cell_new _ _ _ rfl rfl
                have HNE1 := Lib.hid (show ∀ g, u1.ownBlock = some g → g ≠ v13.heap.size from fun g e => by have := (HO1.out.lt g e).2; omega)
                replace HO1 := Lib.hid (HO1.out.alloc (.cells #[.slice sa s.length sc] 30))
                have hb := below_alloc v13 (.cells #[.slice sa s.length sc] 30)
                have lt_nx := size_alloc' v13 (.cells #[.slice sa s.length sc] 30)
                obtain ⟨BN, hBN⟩ : ∃ BN : Nat, BN = v13.heap.size := ⟨_, rfl⟩
                rw [← hBN] at nx_0 HNE1 ⊢
                have hBNl : BN ≤ v13.heap.size ∧ v13.heap.size ≤ BN := by omega
                clear hBN
                generalize hwn : v13.alloc (.cells #[.slice sa s.length sc] 30) = v14 at *
                clear hwn
                have sz14 : v13.heap.size ≤ v14.heap.size := hb.size
                have HBh14 := Lib.hid (HBh13.out.trans (hb.mono (by have := HBh13.out.size; omega)))
                clear hb
                refine hK.out _ _ ?_ (fun hHeld => ?_)
                · exact trivial
                clear hK K
                try simp only [List.getElem_toArray, List.getElem_cons_succ, List.getElem_cons_zero, Act.put, List.setIfInBounds_toArray, List.set_cons_zero, List.set_cons_succ]
                refine wpAnyH_ready (rs := [7]) (by kernel_rfl) (by simp) ?_
                refine AllReadyH.cons rfl (fun K hK => ?_) AllReadyH.nil
                clear hHeld
                refine step_append_any rfl _ _ 22 rfl wm.heap.size 30 i0 (.slice none 0 0) 1 24 Try.underlying22 hi hz0 hz1 hz2 rfl (by decide) u1 (0 + kk) ([] ++ (cs.take kk)) (by rfl) HO1.out ⟨BN, 0, none⟩ 1 1 [.slice sa s.length sc] (by rfl) (by rfl) (fun j u hj => by (have h7 : j = 0 := by (have := (List.getElem?_eq_some_iff.1 hj).1; simp at this; exact this)); subst h7; simp at hj; subst hj; simpa [Addr.add] using nx_0) (by simp [Value.oneCell']) (by unfold maxLen; omega) (by omega) (by have := HBh14.out.size; omega) ?_
                intro u2 v15 hown2 hg hat2
                have nx_00 := nx_0
                have hnb : ∀ g, u1.ownBlock = some g → BN ≠ g := fun g e => Ne.symm (HNE1.out g e)
                have hrow : ∀ g, u1.ownBlock = some g → wm.heap.size ≤ g := fun g e => (HO1.out.lt g e).1
                have sz15 : v14.heap.size ≤ v15.heap.size := hg.size
                replace nx_0 := cell_grow hg nx_0 (fun g e => hnb g e)
                have HBh15 := Lib.hid (HBh14.out.grown hg (by have := HBh14.out.size; omega) (fun g e => hrow g e))
                have HO2 := Lib.hid hown2
                have HNE2 := Lib.hid (show ∀ g, u2.ownBlock = some g → g ≠ BN from fun g e => by (rcases hat2 with e2 | e2); (rw [e2] at e; exact HNE1.out g e); (have h7 : v14.heap.size = g := by (rw [e2] at e; simpa using e)); (have h8 := block_lt_of_cell (a := ⟨BN, 0, none⟩) nx_00); omega)
                clear hown2 hg hat2 hrow hnb
                clear nx_00
                refine hK.out _ _ ?_ (fun hHeld => ?_)
                · exact trivial
                clear hK K
                try simp only [List.getElem_toArray, List.getElem_cons_succ, List.getElem_cons_zero, Act.put, List.setIfInBounds_toArray, List.set_cons_zero, List.set_cons_succ]
                refine wpAnyH_ready (rs := [11]) (by kernel_rfl) (by simp) ?_
                refine AllReadyH.cons rfl (fun K hK => ?_) AllReadyH.nil
                clear hHeld
                refine step_append_any rfl _ _ 22 rfl wm.heap.size 30 i0 (.slice none 0 0) 1 24 Try.underlying22 hi hz0 hz1 hz2 rfl (by decide) u2 (0 + kk + 1) ([] ++ (cs.take kk) ++ [.slice sa s.length sc]) (by rfl) HO2.out ⟨gl, kk, none⟩ (rows.length - kk) (cp - kk) (cs.drop kk) (by rfl) (by rw [List.length_drop]; omega) (fun j u hj => by rw [Go.WideShapes.add_plain]; exact cell_below HBh15.out (HCL.out (kk + j) u (by rw [List.getElem?_drop] at hj; exact hj)) hgl) (fun u hu => HONE.out u (List.mem_of_mem_drop hu)) (by unfold maxLen; omega) (by omega) (by have := HBh15.out.size; omega) ?_
                intro u3 v16 hown3 hg hat3
                have nx_00 := nx_0
                have hnb : ∀ g, u2.ownBlock = some g → BN ≠ g := fun g e => Ne.symm (HNE2.out g e)
                have hrow : ∀ g, u2.ownBlock = some g → wm.heap.size ≤ g := fun g e => (HO2.out.lt g e).1
                have sz16 : v15.heap.size ≤ v16.heap.size := hg.size
                replace nx_0 := cell_grow hg nx_0 (fun g e => hnb g e)
                have HBh16 := Lib.hid (HBh15.out.grown hg (by have := HBh15.out.size; omega) (fun g e => hrow g e))
                have HO3 := Lib.hid hown3
                have HNE3 := Lib.hid (show ∀ g, u3.ownBlock = some g → g ≠ BN from fun g e => by (rcases hat3 with e2 | e2); (rw [e2] at e; exact HNE2.out g e); (have h7 : v15.heap.size = g := by (rw [e2] at e; simpa using e)); (have h8 := block_lt_of_cell (a := ⟨BN, 0, none⟩) nx_00); omega)
                clear hown3 hg hat3 hrow hnb
                clear nx_00
                refine hK.out _ _ ?_ (fun hHeld => ?_)
                · exact trivial
                clear hK K
                try simp only [List.getElem_toArray, List.getElem_cons_succ, List.getElem_cons_zero, Act.put, List.setIfInBounds_toArray, List.set_cons_zero, List.set_cons_succ]
                refine wpAnyH_take (i := 12) (v := ?_) rfl (by kernel_rfl) (by kernel_rfl) (by kernel_rfl) (fun _ _ _ h => h) (Or.inl ⟨by rfl, ?_⟩) (by assumption) ?_
                rotate_left
                · intro w9 hSw; (try dsimp only at hSw); go_simp; try with_reducible rfl
                try simp only [List.getElem_toArray, List.getElem_cons_succ, List.getElem_cons_zero, Act.put, List.setIfInBounds_toArray, List.set_cons_zero, List.set_cons_succ]
                refine wpAnyH_done (by kernel_rfl) ?_ _
                refine NoPanic.normal ?_
                clear hHeld
                have hfin : v16.ownsRow wm.heap.size 30 1 u3 (rows.length + 1) (insAt cs kk (.slice sa s.length sc)) := by
                  have h7 := HO3.out
                  rw [show 0 + kk + 1 + (rows.length - kk) = rows.length + 1 by omega] at h7
                  simpa [insAt, List.append_assoc] using h7
                obtain ⟨gn, cn, hun, hgn⟩ := setsn.own_form hfin (by omega)
                subst hun
                have hrn := (rows_ins ((HSN.out).below HBh16.out) HCLN.out kk (by rw [HCLN.out]; omega)).mono (Nat.le_refl _) (Nat.le_trans HBz.out.size HBh16.out.size)
                have hfin2 := ownsRow_base (lo' := w.heap.size) hfin (fun g e => Nat.le_trans HWZ.out.size (hfin.lt g e).1)
                have HFN := Lib.hid hfin2
                have HRN := Lib.hid hrn
                have HBN := Lib.hid (HWZ.out.trans (HBh16.out.mono HWZ.out.size))
                clear hfin hfin2 hrn
                go_wp2_with fail
                go_roundw
                case rel => exact ⟨k + 1, gn, cn, insAt cs kk (.slice sa s.length sc), by omega, by go_num, by rw [HTR.out, insAt_length _ _ _ (by omega)], by rw [HTR.out, insAt_length _ _ _ (by omega)]; exact HFN.out, by rw [HTR.out]; exact HRN.out, HBN.out⟩
                case measure => simp [intOf]; omega
              refine AllReadyH.cons rfl (fun K hK => ?_) AllReadyH.nil
              clear hHeld
              go_simp
              have nx_0 : (v12.alloc (.cells #[.slice sa s.length sc] 30)).cell? ⟨v12.heap.size, 0, none⟩ = some (.slice sa s.length sc) := cell_new _ _ _ rfl rfl
              have HNE0 := Lib.hid (show ∀ g, (Value.slice (some ⟨B0, 0, none⟩) 0 0).ownBlock = some g → g ≠ v12.heap.size from fun g e => by have := (HO0.out.lt g e).2; omega)
              replace HO0 := Lib.hid (HO0.out.alloc (.cells #[.slice sa s.length sc] 30))
              have hb := below_alloc v12 (.cells #[.slice sa s.length sc] 30)
              have lt_nx := size_alloc' v12 (.cells #[.slice sa s.length sc] 30)
              obtain ⟨BN, hBN⟩ : ∃ BN : Nat, BN = v12.heap.size := ⟨_, rfl⟩
              rw [← hBN] at nx_0 HNE0 ⊢
              have hBNl : BN ≤ v12.heap.size ∧ v12.heap.size ≤ BN := by omega
              clear hBN
              generalize hwn : v12.alloc (.cells #[.slice sa s.length sc] 30) = v13 at *
              clear hwn
              have sz13 : v12.heap.size ≤ v13.heap.size := hb.size
              have HBh13 := Lib.hid (HBh12.out.trans (hb.mono (by have := HBh12.out.size; omega)))
              clear hb
              refine hK.out _ _ ?_ (fun hHeld => ?_)
              · exact trivial
              clear hK K
              try simp only [List.getElem_toArray, List.getElem_cons_succ, List.getElem_cons_zero, Act.put, List.setIfInBounds_toArray, List.set_cons_zero, List.set_cons_succ]
              refine wpAnyH_ready (rs := [4]) (by kernel_rfl) (by simp) ?_
              refine AllReadyH.cons rfl (fun K hK => ?_) AllReadyH.nil
              clear hHeld
              refine step_append_any rfl _ _ 22 rfl wm.heap.size 30 i0 (.slice none 0 0) 1 24 Try.underlying22 hi hz0 hz1 hz2 rfl (by decide) (Value.slice (some ⟨B0, 0, none⟩) 0 0) (0) ([]) (by rfl) HO0.out ⟨gl, 0, none⟩ kk cp (cs.take kk) (by rfl) (by rw [List.length_take]; omega) (fun j u hj => by rw [Go.WideShapes.add_plain, Nat.zero_add]; exact cell_below HBh13.out (HCL.out j u (take_some hj)) hgl) (fun u hu => HONE.out u (List.mem_of_mem_take hu)) (by unfold maxLen; omega) (by omega) (by have := HBh13.out.size; omega) ?_
              intro u1 v14 hown1 hg hat1
              have nx_00 := nx_0
              have hnb : ∀ g, (Value.slice (some ⟨B0, 0, none⟩) 0 0).ownBlock = some g → BN ≠ g := fun g e => Ne.symm (HNE0.out g e)
              have hrow : ∀ g, (Value.slice (some ⟨B0, 0, none⟩) 0 0).ownBlock = some g → wm.heap.size ≤ g := fun g e => (HO0.out.lt g e).1
              have sz14 : v13.heap.size ≤ v14.heap.size := hg.size
              replace nx_0 := cell_grow hg nx_0 (fun g e => hnb g e)
              have HBh14 := Lib.hid (HBh13.out.grown hg (by have := HBh13.out.size; omega) (fun g e => hrow g e))
              have HO1 := Lib.hid hown1
              have HNE1 := Lib.hid (show ∀ g, u1.ownBlock = some g → g ≠ BN from fun g e => by (rcases hat1 with e2 | e2); (rw [e2] at e; exact HNE0.out g e); (have h7 : v13.heap.size = g := by (rw [e2] at e; simpa using e)); (have h8 := block_lt_of_cell (a := ⟨BN, 0, none⟩) nx_00); omega)
              clear hown1 hg hat1 hrow hnb
              clear nx_00
              refine hK.out _ _ ?_ (fun hHeld => ?_)
              · exact trivial
              clear hK K
              try simp only [List.getElem_toArray, List.getElem_cons_succ, List.getElem_cons_zero, Act.put, List.setIfInBounds_toArray, List.set_cons_zero, List.set_cons_succ]
              refine wpAnyH_ready (rs := [7]) (by kernel_rfl) (by simp) ?_
              refine AllReadyH.cons rfl (fun K hK => ?_) AllReadyH.nil
              clear hHeld
              refine step_append_any rfl _ _ 22 rfl wm.heap.size 30 i0 (.slice none 0 0) 1 24 Try.underlying22 hi hz0 hz1 hz2 rfl (by decide) u1 (0 + kk) ([] ++ (cs.take kk)) (by rfl) HO1.out ⟨BN, 0, none⟩ 1 1 [.slice sa s.length sc] (by rfl) (by rfl) (fun j u hj => by (have h7 : j = 0 := by (have := (List.getElem?_eq_some_iff.1 hj).1; simp at this; exact this)); subst h7; simp at hj; subst hj; simpa [Addr.add] using nx_0) (by simp [Value.oneCell']) (by unfold maxLen; omega) (by omega) (by have := HBh14.out.size; omega) ?_
              intro u2 v15 hown2 hg hat2
              have nx_00 := nx_0
              have hnb : ∀ g, u1.ownBlock = some g → BN ≠ g := fun g e => Ne.symm (HNE1.out g e)
              have hrow : ∀ g, u1.ownBlock = some g → wm.heap.size ≤ g := fun g e => (HO1.out.lt g e).1
              have sz15 : v14.heap.size ≤ v15.heap.size := hg.size
              replace nx_0 := cell_grow hg nx_0 (fun g e => hnb g e)
              have HBh15 := Lib.hid (HBh14.out.grown hg (by have := HBh14.out.size; omega) (fun g e => hrow g e))
              have HO2 := Lib.hid hown2
              have HNE2 := Lib.hid (show ∀ g, u2.ownBlock = some g → g ≠ BN from fun g e => by (rcases hat2 with e2 | e2); (rw [e2] at e; exact HNE1.out g e); (have h7 : v14.heap.size = g := by (rw [e2] at e; simpa using e)); (have h8 := block_lt_of_cell (a := ⟨BN, 0, none⟩) nx_00); omega)
              clear hown2 hg hat2 hrow hnb
              clear nx_00
              refine hK.out _ _ ?_ (fun hHeld => ?_)
              · exact trivial
              clear hK K
              try simp only [List.getElem_toArray, List.getElem_cons_succ, List.getElem_cons_zero, Act.put, List.setIfInBounds_toArray, List.set_cons_zero, List.set_cons_succ]
              refine wpAnyH_ready (rs := [11]) (by kernel_rfl) (by simp) ?_
              refine AllReadyH.cons rfl (fun K hK => ?_) AllReadyH.nil
              clear hHeld
              refine step_append_any rfl _ _ 22 rfl wm.heap.size 30 i0 (.slice none 0 0) 1 24 Try.underlying22 hi hz0 hz1 hz2 rfl (by decide) u2 (0 + kk + 1) ([] ++ (cs.take kk) ++ [.slice sa s.length sc]) (by rfl) HO2.out ⟨gl, kk, none⟩ (rows.length - kk) (cp - kk) (cs.drop kk) (by rfl) (by rw [List.length_drop]; omega) (fun j u hj => by rw [Go.WideShapes.add_plain]; exact cell_below HBh15.out (HCL.out (kk + j) u (by rw [List.getElem?_drop] at hj; exact hj)) hgl) (fun u hu => HONE.out u (List.mem_of_mem_drop hu)) (by unfold maxLen; omega) (by omega) (by have := HBh15.out.size; omega) ?_
              intro u3 v16 hown3 hg hat3
              have nx_00 := nx_0
              have hnb : ∀ g, u2.ownBlock = some g → BN ≠ g := fun g e => Ne.symm (HNE2.out g e)
              have hrow : ∀ g, u2.ownBlock = some g → wm.heap.size ≤ g := fun g e => (HO2.out.lt g e).1
              have sz16 : v15.heap.size ≤ v16.heap.size := hg.size
              replace nx_0 := cell_grow hg nx_0 (fun g e => hnb g e)
              have HBh16 := Lib.hid (HBh15.out.grown hg (by have := HBh15.out.size; omega) (fun g e => hrow g e))
              have HO3 := Lib.hid hown3
              have HNE3 := Lib.hid (show ∀ g, u3.ownBlock = some g → g ≠ BN from fun g e => by (rcases hat3 with e2 | e2); (rw [e2] at e; exact HNE2.out g e); (have h7 : v15.heap.size = g := by (rw [e2] at e; simpa using e)); (have h8 := block_lt_of_cell (a := ⟨BN, 0, none⟩) nx_00); omega)
              clear hown3 hg hat3 hrow hnb
              clear nx_00
              refine hK.out _ _ ?_ (fun hHeld => ?_)
              · exact trivial
              clear hK K
              try simp only [List.getElem_toArray, List.getElem_cons_succ, List.getElem_cons_zero, Act.put, List.setIfInBounds_toArray, List.set_cons_zero, List.set_cons_succ]
              refine wpAnyH_take (i := 12) (v := ?_) rfl (by kernel_rfl) (by kernel_rfl) (by kernel_rfl) (fun _ _ _ h => h) (Or.inl ⟨by rfl, ?_⟩) (by assumption) ?_
              rotate_left
              · intro w9 hSw; (try dsimp only at hSw); go_simp; try with_reducible rfl
              try simp only [List.getElem_toArray, List.getElem_cons_succ, List.getElem_cons_zero, Act.put, List.setIfInBounds_toArray, List.set_cons_zero, List.set_cons_succ]
              refine wpAnyH_done (by kernel_rfl) ?_ _
              refine NoPanic.normal ?_
              clear hHeld
              have hfin : v16.ownsRow wm.heap.size 30 1 u3 (rows.length + 1) (insAt cs kk (.slice sa s.length sc)) := by
                have h7 := HO3.out
                rw [show 0 + kk + 1 + (rows.length - kk) = rows.length + 1 by omega] at h7
                simpa [insAt, List.append_assoc] using h7
              obtain ⟨gn, cn, hun, hgn⟩ := setsn.own_form hfin (by omega)
              subst hun
              have hrn := (rows_ins ((HSN.out).below HBh16.out) HCLN.out kk (by rw [HCLN.out]; omega)).mono (Nat.le_refl _) (Nat.le_trans HBz.out.size HBh16.out.size)
              have hfin2 := ownsRow_base (lo' := w.heap.size) hfin (fun g e => Nat.le_trans HWZ.out.size (hfin.lt g e).1)
              have HFN := Lib.hid hfin2
              have HRN := Lib.hid hrn
              have HBN := Lib.hid (HWZ.out.trans (HBh16.out.mono HWZ.out.size))
              clear hfin hfin2 hrn
              go_wp2_with fail
              go_roundw
              case rel => exact ⟨k + 1, gn, cn, insAt cs kk (.slice sa s.length sc), by omega, by go_num, by rw [HTR.out, insAt_length _ _ _ (by omega)], by rw [HTR.out, insAt_length _ _ _ (by omega)]; exact HFN.out, by rw [HTR.out]; exact HRN.out, HBN.out⟩
              case measure => simp [intOf]; omega
            refine AllReadyH.cons rfl (fun K hK => ?_) AllReadyH.nil
            clear hHeld
            go_simp
            have nx_0 : (v11.alloc (.cells #[.slice sa s.length sc] 30)).cell? ⟨v11.heap.size, 0, none⟩ = some (.slice sa s.length sc) := cell_new _ _ _ rfl rfl
            have hb := below_alloc v11 (.cells #[.slice sa s.length sc] 30)
            have lt_nx := size_alloc' v11 (.cells #[.slice sa s.length sc] 30)
            obtain ⟨BN, hBN⟩ : ∃ BN : Nat, BN = v11.heap.size := ⟨_, rfl⟩
            rw [← hBN] at nx_0  ⊢
            have hBNl : BN ≤ v11.heap.size ∧ v11.heap.size ≤ BN := by omega
            clear hBN
            generalize hwn : v11.alloc (.cells #[.slice sa s.length sc] 30) = v12 at *
            clear hwn
            have sz12 : v11.heap.size ≤ v12.heap.size := hb.size
            have HBh12 := Lib.hid (HBh11.out.trans (hb.mono (by have := HBh11.out.size; omega)))
            clear hb
            refine hK.out _ _ ?_ (fun hHeld => ?_)
            · exact trivial
            clear hK K
            try simp only [List.getElem_toArray, List.getElem_cons_succ, List.getElem_cons_zero, Act.put, List.setIfInBounds_toArray, List.set_cons_zero, List.set_cons_succ]
            refine wpAnyH_ready (rs := [0]) (by kernel_rfl) (by simp) ?_
            refine AllReadyH.cons rfl (fun K hK => ?_) AllReadyH.nil
            clear hHeld
            go_simp
            have ho0 : (v12.alloc (.cells #[] 30)).ownsRow wm.heap.size 30 1 (.slice (some ⟨v12.heap.size, 0, none⟩) 0 0) 0 [] := World.ownsRow_made (base := wm.heap.size) (e := 30) (size := 1) v12 #[] 0 (by have := HBh12.out.size; omega) (by unfold maxLen; omega) rfl
            have hb := below_alloc v12 (.cells #[] 30)
            have lt_v0 := size_alloc' v12 (.cells #[] 30)
            have hne0 : BN ≠ v12.heap.size := by omega
            obtain ⟨B0, hB0⟩ : ∃ B0 : Nat, B0 = v12.heap.size := ⟨_, rfl⟩
            rw [← hB0] at ho0 ⊢
            have hB0l : B0 ≤ v12.heap.size ∧ v12.heap.size ≤ B0 := by omega
            clear hB0
            generalize hwn : v12.alloc (.cells #[] 30) = v13 at *
            clear hwn
            have sz13 : v12.heap.size ≤ v13.heap.size := hb.size
            replace nx_0 := cell_keep hb nx_0
            have HBh13 := Lib.hid (HBh12.out.trans (hb.mono (by have := HBh12.out.size; omega)))
            clear hb
            have HO0 := Lib.hid ho0
            clear ho0
            have HNE0 := Lib.hid (show ∀ g, (Value.slice (some ⟨B0, 0, none⟩) 0 0).ownBlock = some g → g ≠ BN from fun g e => by (have e2 : B0 = g := by simpa [Value.ownBlock] using e); omega)
            refine hK.out _ _ ?_ (fun hHeld => ?_)
            · exact trivial
            clear hK K
            try simp only [List.getElem_toArray, List.getElem_cons_succ, List.getElem_cons_zero, Act.put, List.setIfInBounds_toArray, List.set_cons_zero, List.set_cons_succ]
            refine wpAnyH_ready (rs := [4]) (by kernel_rfl) (by simp) ?_
            refine AllReadyH.cons rfl (fun K hK => ?_) AllReadyH.nil
            clear hHeld
            refine step_append_any rfl _ _ 22 rfl wm.heap.size 30 i0 (.slice none 0 0) 1 24 Try.underlying22 hi hz0 hz1 hz2 rfl (by decide) (Value.slice (some ⟨B0, 0, none⟩) 0 0) (0) ([]) (by rfl) HO0.out ⟨gl, 0, none⟩ kk cp (cs.take kk) (by rfl) (by rw [List.length_take]; omega) (fun j u hj => by rw [Go.WideShapes.add_plain, Nat.zero_add]; exact cell_below HBh13.out (HCL.out j u (take_some hj)) hgl) (fun u hu => HONE.out u (List.mem_of_mem_take hu)) (by unfold maxLen; omega) (by omega) (by have := HBh13.out.size; omega) ?_
            intro u1 v14 hown1 hg hat1
            have nx_00 := nx_0
            have hnb : ∀ g, (Value.slice (some ⟨B0, 0, none⟩) 0 0).ownBlock = some g → BN ≠ g := fun g e => Ne.symm (HNE0.out g e)
            have hrow : ∀ g, (Value.slice (some ⟨B0, 0, none⟩) 0 0).ownBlock = some g → wm.heap.size ≤ g := fun g e => (HO0.out.lt g e).1
            have sz14 : v13.heap.size ≤ v14.heap.size := hg.size
            replace nx_0 := cell_grow hg nx_0 (fun g e => hnb g e)
            have HBh14 := Lib.hid (HBh13.out.grown hg (by have := HBh13.out.size; omega) (fun g e => hrow g e))
            have HO1 := Lib.hid hown1
            have HNE1 := Lib.hid (show ∀ g, u1.ownBlock = some g → g ≠ BN from fun g e => by (rcases hat1 with e2 | e2); (rw [e2] at e; exact HNE0.out g e); (have h7 : v13.heap.size = g := by (rw [e2] at e; simpa using e)); (have h8 := block_lt_of_cell (a := ⟨BN, 0, none⟩) nx_00); omega)
            clear hown1 hg hat1 hrow hnb
            clear nx_00
            refine hK.out _ _ ?_ (fun hHeld => ?_)
            · exact trivial
            clear hK K
            try simp only [List.getElem_toArray, List.getElem_cons_succ, List.getElem_cons_zero, Act.put, List.setIfInBounds_toArray, List.set_cons_zero, List.set_cons_succ]
            refine wpAnyH_ready (rs := [7]) (by kernel_rfl) (by simp) ?_
            refine AllReadyH.cons rfl (fun K hK => ?_) AllReadyH.nil
            clear hHeld
            refine step_append_any rfl _ _ 22 rfl wm.heap.size 30 i0 (.slice none 0 0) 1 24 Try.underlying22 hi hz0 hz1 hz2 rfl (by decide) u1 (0 + kk) ([] ++ (cs.take kk)) (by rfl) HO1.out ⟨BN, 0, none⟩ 1 1 [.slice sa s.length sc] (by rfl) (by rfl) (fun j u hj => by (have h7 : j = 0 := by (have := (List.getElem?_eq_some_iff.1 hj).1; simp at this; exact this)); subst h7; simp at hj; subst hj; simpa [Addr.add] using nx_0) (by simp [Value.oneCell']) (by unfold maxLen; omega) (by omega) (by have := HBh14.out.size; omega) ?_
            intro u2 v15 hown2 hg hat2
            have nx_00 := nx_0
            have hnb : ∀ g, u1.ownBlock = some g → BN ≠ g := fun g e => Ne.symm (HNE1.out g e)
            have hrow : ∀ g, u1.ownBlock = some g → wm.heap.size ≤ g := fun g e => (HO1.out.lt g e).1
            have sz15 : v14.heap.size ≤ v15.heap.size := hg.size
            replace nx_0 := cell_grow hg nx_0 (fun g e => hnb g e)
            have HBh15 := Lib.hid (HBh14.out.grown hg (by have := HBh14.out.size; omega) (fun g e => hrow g e))
            have HO2 := Lib.hid hown2
            have HNE2 := Lib.hid (show ∀ g, u2.ownBlock = some g → g ≠ BN from fun g e => by (rcases hat2 with e2 | e2); (rw [e2] at e; exact HNE1.out g e); (have h7 : v14.heap.size = g := by (rw [e2] at e; simpa using e)); (have h8 := block_lt_of_cell (a := ⟨BN, 0, none⟩) nx_00); omega)
            clear hown2 hg hat2 hrow hnb
            clear nx_00
            refine hK.out _ _ ?_ (fun hHeld => ?_)
            · exact trivial
            clear hK K
            try simp only [List.getElem_toArray, List.getElem_cons_succ, List.getElem_cons_zero, Act.put, List.setIfInBounds_toArray, List.set_cons_zero, List.set_cons_succ]
            refine wpAnyH_ready (rs := [11]) (by kernel_rfl) (by simp) ?_
            refine AllReadyH.cons rfl (fun K hK => ?_) AllReadyH.nil
            clear hHeld
            refine step_append_any rfl _ _ 22 rfl wm.heap.size 30 i0 (.slice none 0 0) 1 24 Try.underlying22 hi hz0 hz1 hz2 rfl (by decide) u2 (0 + kk + 1) ([] ++ (cs.take kk) ++ [.slice sa s.length sc]) (by rfl) HO2.out ⟨gl, kk, none⟩ (rows.length - kk) (cp - kk) (cs.drop kk) (by rfl) (by rw [List.length_drop]; omega) (fun j u hj => by rw [Go.WideShapes.add_plain]; exact cell_below HBh15.out (HCL.out (kk + j) u (by rw [List.getElem?_drop] at hj; exact hj)) hgl) (fun u hu => HONE.out u (List.mem_of_mem_drop hu)) (by unfold maxLen; omega) (by omega) (by have := HBh15.out.size; omega) ?_
            intro u3 v16 hown3 hg hat3
            have nx_00 := nx_0
            have hnb : ∀ g, u2.ownBlock = some g → BN ≠ g := fun g e => Ne.symm (HNE2.out g e)
            have hrow : ∀ g, u2.ownBlock = some g → wm.heap.size ≤ g := fun g e => (HO2.out.lt g e).1
            have sz16 : v15.heap.size ≤ v16.heap.size := hg.size
            replace nx_0 := cell_grow hg nx_0 (fun g e => hnb g e)
            have HBh16 := Lib.hid (HBh15.out.grown hg (by have := HBh15.out.size; omega) (fun g e => hrow g e))
            have HO3 := Lib.hid hown3
            have HNE3 := Lib.hid (show ∀ g, u3.ownBlock = some g → g ≠ BN from fun g e => by (rcases hat3 with e2 | e2); (rw [e2] at e; exact HNE2.out g e); (have h7 : v15.heap.size = g := by (rw [e2] at e; simpa using e)); (have h8 := block_lt_of_cell (a := ⟨BN, 0, none⟩) nx_00); omega)
            clear hown3 hg hat3 hrow hnb
            clear nx_00
            refine hK.out _ _ ?_ (fun hHeld => ?_)
            · exact trivial
            clear hK K
            try simp only [List.getElem_toArray, List.getElem_cons_succ, List.getElem_cons_zero, Act.put, List.setIfInBounds_toArray, List.set_cons_zero, List.set_cons_succ]
            refine wpAnyH_take (i := 12) (v := ?_) rfl (by kernel_rfl) (by kernel_rfl) (by kernel_rfl) (fun _ _ _ h => h) (Or.inl ⟨by rfl, ?_⟩) (by assumption) ?_
            rotate_left
            · intro w9 hSw; (try dsimp only at hSw); go_simp; try with_reducible rfl
            try simp only [List.getElem_toArray, List.getElem_cons_succ, List.getElem_cons_zero, Act.put, List.setIfInBounds_toArray, List.set_cons_zero, List.set_cons_succ]
            refine wpAnyH_done (by kernel_rfl) ?_ _
            refine NoPanic.normal ?_
            clear hHeld
            have hfin : v16.ownsRow wm.heap.size 30 1 u3 (rows.length + 1) (insAt cs kk (.slice sa s.length sc)) := by
              have h7 := HO3.out
              rw [show 0 + kk + 1 + (rows.length - kk) = rows.length + 1 by omega] at h7
              simpa [insAt, List.append_assoc] using h7
            obtain ⟨gn, cn, hun, hgn⟩ := setsn.own_form hfin (by omega)
            subst hun
            have hrn := (rows_ins ((HSN.out).below HBh16.out) HCLN.out kk (by rw [HCLN.out]; omega)).mono (Nat.le_refl _) (Nat.le_trans HBz.out.size HBh16.out.size)
            have hfin2 := ownsRow_base (lo' := w.heap.size) hfin (fun g e => Nat.le_trans HWZ.out.size (hfin.lt g e).1)
            have HFN := Lib.hid hfin2
            have HRN := Lib.hid hrn
            have HBN := Lib.hid (HWZ.out.trans (HBh16.out.mono HWZ.out.size))
            clear hfin hfin2 hrn
            go_wp2_with fail
            go_roundw
            case rel => exact ⟨k + 1, gn, cn, insAt cs kk (.slice sa s.length sc), by omega, by go_num, by rw [HTR.out, insAt_length _ _ _ (by omega)], by rw [HTR.out, insAt_length _ _ _ (by omega)]; exact HFN.out, by rw [HTR.out]; exact HRN.out, HBN.out⟩
            case measure => simp [intOf]; omega
    · obtain rfl : k = cla.length := by omega
      have HF := Lib.hid (show MadeG (trTo cla set cla.length) w (.returned (.slice (some ⟨gl, 0, none⟩) (trTo cla set cla.length).length cp)) wr from ⟨_, rfl, ⟨cs, hown, fun g e => (hown.lt g e).2, hro⟩, hbel⟩)
      clear hown hro hbel
      go_wp2_with fail
      go_ret
      exact HF.out
end Go.Proofs.Ytncidajjeccbkaa.traces
