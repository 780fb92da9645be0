/- Several texts in one. -/
import Derived.Test.YtoephhhofkmgjabSpG40
import Derived.Test.YtoephhhofkmgjabSpG39
namespace Go.Proofs.Ytoephhhofkmgjab.leasts
open Go.RowKit own pp nums tab told least5 wts parts leasti has nums findp
set_option linter.unusedVariables false
set_option linter.unusedSimpArgs false

theorem ownI_below9 {lo : Nat} {X Y : World} {v : Value} {zs : List Int} (h : OwnI lo X.heap.size X v zs) (hb : Below X.heap.size X Y) : OwnI lo Y.heap.size Y v zs := (h.block (fun g hg => hb.block g (h.lt hg).2.2)).mono (Nat.le_refl _) hb.size
theorem bs_in {n : Nat} {zs : List Int} {rows : List (List Int)} {k : Nat} (hk : k ≤ rows.length) (h : (bs n zs rows k).2 = true) : (bs n zs rows k).1 ∈ rows := by
  induction k with
  | zero => cases h
  | succ k ih =>
    rw [bs] at h ⊢
    split at h
    · next c => rw [if_pos c]; exact ih (by omega) c.1
    · next c =>
      rw [if_neg c]
      split at h
      · next c2 => rw [if_pos c2, List.getD_eq_getElem?_getD, List.getElem?_eq_getElem (by omega)]; exact List.getElem_mem _
      · next c2 => rw [if_neg c2]; exact ih (by omega) h
set_option maxRecDepth 100000 in
set_option maxHeartbeats 4000000 in
theorem spec_plane (n : Nat) (a : Option Addr) (zs : List Int) (c : Nat) (w : World) (hr : ints.Reads .i64 w a zs) (hk : tab.tabB n zs = true) :
    Calls Try.prog 46 #[.int .i64 n, .slice a zs.length c] w ((RetPB (bs n zs (wts n) (wts n).length).1 (bv n zs (wts n).length) (bs n zs (wts n) (wts n).length).2 w)) := by
  obtain ⟨m0, he, h4, hpw, h16, hrg⟩ := tab_nat hk
  have HL := Lib.hid (fun (W : World) (hb : Below w.heap.size w W) => spec_least n a zs c W (hr.below hb) hk)
  have HP := Lib.hid (fun (W : World) (hb : Below w.heap.size w W) (p : Option Addr) (ws : List Int) (q : Nat) (hq : ints.Reads .i64 W p ws) (hl : ws.length = n) (hW : W3 ws) => spec_parts n a zs c p ws q W (hr.below hb) hq hk hl hW)
  have HH := Lib.hid (fun (W : World) (hb : Below w.heap.size w W) => spec_has a zs c 1 W (hr.below hb) (by omega) (hasB zs 1) (Lib.hid rfl))
  have hbr := bs_row n zs (wts n) (wts n).length (Nat.le_refl _)
  have HBV := Lib.hid (show bv n zs (wts n).length = if (bs n zs (wts n) (wts n).length).2 = true then tie.bd n zs (bs n zs (wts n) (wts n).length).1 else 0 from rfl)
  have hem := bs_empty (n := n) (zs := zs) (rows := wts n) (k := (wts n).length)
  have hfo : (bs n zs (wts n) (wts n).length).2 = true → (bs n zs (wts n) (wts n).length).1.length = n ∧ W3 (bs n zs (wts n) (wts n).length).1 := by
    intro hf
    have e := bs_in (Nat.le_refl _) hf
    exact ⟨(wts_row e).1, w3_row e⟩
  have HFO := Lib.hid hfo
  have HEM := Lib.hid hem
  have HTE := Lib.hid (fun (ws : List Int) (hl : ws.length = n) (hW : W3 ws) => (tie.tie_end hk hl hW).2.2.2)
  have HBD := Lib.hid (fun ws => show tie.bd n zs ws = if hasB zs 1 = true then (st n zs ws zs.length).l else (st n zs ws zs.length).m + 1 from rfl)
  clear hr hk hrg hpw he hbr hem hfo
  generalize bv n zs (wts n).length = bb at *
  generalize (bs n zs (wts n) (wts n).length).1 = bw at *
  generalize (bs n zs (wts n) (wts n).length).2 = ok at *
  go_enter Try.func46, Try.ntmps46
  go_wp2_with fail
  have x0 : (w.alloc (.cells #[.slice none 0 0, .int .i64 0] 46)).cell? ⟨w.heap.size, 0, none⟩ = some (.slice none 0 0) := cell_new _ _ _ (by simp) rfl
  have x1 : (w.alloc (.cells #[.slice none 0 0, .int .i64 0] 46)).cell? ⟨w.heap.size, 1, none⟩ = some (.int .i64 0) := cell_new _ _ _ (by simp) rfl
  have xf0 : (w.alloc (.cells #[.slice none 0 0, .int .i64 0] 46)).frozen? ⟨w.heap.size, 0, none⟩ = false := fro_new _ _ _ rfl
  have xf1 : (w.alloc (.cells #[.slice none 0 0, .int .i64 0] 46)).frozen? ⟨w.heap.size, 1, none⟩ = false := fro_new _ _ _ rfl
  have hP0 : (w.alloc (.cells #[.slice none 0 0, .int .i64 0] 46)).heap[w.heap.size]? = some (.cells #[.slice none 0 0, .int .i64 0] 46) := World.alloc_heap_new w _
  have HB0 := Lib.hid (below_alloc w (.cells #[.slice none 0 0, .int .i64 0] 46))
  have hs0 : (w.alloc (.cells #[.slice none 0 0, .int .i64 0] 46)).heap.size = w.heap.size + 1 := by simp
  generalize hw : (w.alloc (.cells #[.slice none 0 0, .int .i64 0] 46)) = w0 at *
  clear hw
  refine (HL.out w0 HB0.out).mono ?_
  rintro e w1 ⟨v, rfl, hov, hb1⟩
  obtain ⟨vp, vq, rfl, hvr, _, _⟩ := hov.slice
  have HOV := Lib.hid hov
  have HPL := Lib.hid ((hb1.block _ (by omega)).trans hP0)
  have y0 := cell_below hb1 x0 (by omega)
  have y1 := cell_below hb1 x1 (by omega)
  have yf0 := fro_below hb1 xf0 (by omega)
  have yf1 := fro_below hb1 xf1 (by omega)
  have HBX := Lib.hid (HB0.out.trans (hb1.mono HB0.out.size))
  have hs1 := hb1.size
  clear x0 x1 xf0 xf1 hP0 hov
  cases ok
  · have HV0 := Lib.hid (show bb = 0 from HBV.out)
    have HE0 := Lib.hid (HEM.out rfl)
    clear hb1
    go_wp2_with fail
    have hp := set_plane (v' := .slice none 0 0) (b' := .int .i64 0) HPL.out
    have q0 : ((w1.setCell ⟨w.heap.size, 0, none⟩ (.slice none 0 0)).setCell ⟨w.heap.size, 1, none⟩ (.int .i64 0)).cell? ⟨w.heap.size, 0, none⟩ = some (.slice none 0 0) := by simp [World.cell?, hp]
    have q1 : ((w1.setCell ⟨w.heap.size, 0, none⟩ (.slice none 0 0)).setCell ⟨w.heap.size, 1, none⟩ (.int .i64 0)).cell? ⟨w.heap.size, 1, none⟩ = some (.int .i64 0) := by simp [World.cell?, hp]
    refine bodyPost_ret (v := .tuple #[.agg #[.slice none 0 0, .int .i64 0], .bool false]) (by simp [results, Try.results46, go_sem, q0, q1]) rfl ⟨.slice none 0 0, by rw [HV0.out], by rw [HE0.out]; exact OwnI.nil _ _ _, (HBX.out.setCell (Nat.le_refl _) _).setCell (Nat.le_refl _) _⟩
  · obtain ⟨hbl, hbW⟩ := HFO.out rfl
    have HV0 := Lib.hid (show bb = tie.bd n zs bw from HBV.out)
    have hbd := HTE.out bw hbl hbW
    have HCP := Lib.hid (HP.out w1 HBX.out vp bw vq hvr hbl hbW)
    clear hbl hb1 hbW HFO
    go_wp2_with fail
    refine HCP.out.mono ?_
    rintro e w2 ⟨rfl, hb2⟩
    have HOV2 := Lib.hid (ownI_below9 HOV.out hb2)
    have HPL2 := Lib.hid ((hb2.block _ (by omega)).trans HPL.out)
    have z0 := cell_below hb2 y0 (by omega)
    have z1 := cell_below hb2 y1 (by omega)
    have zf0 := fro_below hb2 yf0 (by omega)
    have zf1 := fro_below hb2 yf1 (by omega)
    have HBX2 := Lib.hid (HBX.out.trans (hb2.mono HBX.out.size))
    have HBB := Lib.hid (HBD.out bw)
    clear hb2 y0 y1 yf0 yf1 HPL HOV HBX hvr HCP
    have HPL := HPL2
    have HOV := HOV2
    have HBX := HBX2
    have HCH := Lib.hid (HH.out w2 HBX.out)
    generalize (st n zs bw zs.length).l = ll at *
    generalize (st n zs bw zs.length).m = mm at *
    generalize hasB zs 1 = hb at *
    generalize tie.bd n zs bw = bd at *
    go_wp2_with fail
    refine HCH.out.mono ?_
    rintro e w' ⟨rfl, rfl⟩
    cases hb
    · have HB9 := Lib.hid (show bd = mm + 1 from HBB.out)
      have hmm : -13 ≤ mm ∧ mm ≤ 12 := by have := HB9.out; omega
      go_wp2_with fail
      have hp := set_plane (v' := .slice vp bw.length vq) (b' := .int .i64 (mm + 1)) HPL.out
      have q0 : ((w2.setCell ⟨w.heap.size, 0, none⟩ (.slice vp bw.length vq)).setCell ⟨w.heap.size, 1, none⟩ (.int .i64 (mm + 1))).cell? ⟨w.heap.size, 0, none⟩ = some (.slice vp bw.length vq) := by simp [World.cell?, hp]
      have q1 : ((w2.setCell ⟨w.heap.size, 0, none⟩ (.slice vp bw.length vq)).setCell ⟨w.heap.size, 1, none⟩ (.int .i64 (mm + 1))).cell? ⟨w.heap.size, 1, none⟩ = some (.int .i64 (mm + 1)) := by simp [World.cell?, hp]
      refine bodyPost_ret (v := .tuple #[.agg #[.slice vp bw.length vq, .int .i64 (mm + 1)], .bool true]) (by simp [results, Try.results46, go_sem, q0, q1]) rfl ⟨.slice vp bw.length vq, by rw [HV0.out, HB9.out], (by
        refine (HOV.out.block (fun g hg => ?_)).mono (by omega) (by simp [World.setCell])
        have hg' := (HOV.out.lt hg).1
        exact (Below.heap_setCell _ _ _ _ (show g ≠ w.heap.size by omega)).trans (Below.heap_setCell _ _ _ _ (show g ≠ w.heap.size by omega))), (HBX.out.setCell (Nat.le_refl _) _).setCell (Nat.le_refl _) _⟩
    · have HB9 := Lib.hid (show bd = ll from HBB.out)
      go_wp2_with fail
      have hp := set_plane (v' := .slice vp bw.length vq) (b' := .int .i64 ll) HPL.out
      have q0 : ((w2.setCell ⟨w.heap.size, 0, none⟩ (.slice vp bw.length vq)).setCell ⟨w.heap.size, 1, none⟩ (.int .i64 ll)).cell? ⟨w.heap.size, 0, none⟩ = some (.slice vp bw.length vq) := by simp [World.cell?, hp]
      have q1 : ((w2.setCell ⟨w.heap.size, 0, none⟩ (.slice vp bw.length vq)).setCell ⟨w.heap.size, 1, none⟩ (.int .i64 ll)).cell? ⟨w.heap.size, 1, none⟩ = some (.int .i64 ll) := by simp [World.cell?, hp]
      refine bodyPost_ret (v := .tuple #[.agg #[.slice vp bw.length vq, .int .i64 ll], .bool true]) (by simp [results, Try.results46, go_sem, q0, q1]) rfl ⟨.slice vp bw.length vq, by rw [HV0.out, HB9.out], (by
        refine (HOV.out.block (fun g hg => ?_)).mono (by omega) (by simp [World.setCell])
        have hg' := (HOV.out.lt hg).1
        exact (Below.heap_setCell _ _ _ _ (show g ≠ w.heap.size by omega)).trans (Below.heap_setCell _ _ _ _ (show g ≠ w.heap.size by omega))), (HBX.out.setCell (Nat.le_refl _) _).setCell (Nat.le_refl _) _⟩
end Go.Proofs.Ytoephhhofkmgjab.leasts
