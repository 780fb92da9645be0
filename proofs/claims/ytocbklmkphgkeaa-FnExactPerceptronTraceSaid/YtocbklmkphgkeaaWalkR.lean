/- The walks of the program's rounds of perceptrons. -/
import Derived.Test.YtocbklmkphgkeaaRunS
import Derived.Test.YtocbklmkphgkeaaStepPerc
import Derived.Test.YtocbklmkphgkeaaCountsI
namespace Go.Proofs.Ytocbklmkphgkeaa.walkr
open Go.RowKit own own1 pp nums dots fill step range kept samplest samplesv planes runp made
set_option linter.unusedVariables false
set_option linter.unusedSimpArgs false
attribute [local go_sem ↓] Go.wp_at_zero Go.wp_at_succ

theorem ask_of {rows : List (List Int)} {zs : List Int} (h : RF rows zs) {s : Sta} (hp : okP s = true) (hd : s.p.1.length = (rows.getD 0 []).length) (k : Nat) (hk : k < rows.length) : askB s.p.1 s.p.2 (rows.getD k []) (zs.getD k 0) = true := by
  have hl := h.len k hk
  have h1 : oneB s.p.1 s.p.2 (rows.getD k []) = true := (oneB_iff _ _ _).2 ⟨hp, (pointB_iff _).2 ⟨by have := h.dim; omega, by have := h.dim; omega, h.nums k hk⟩, by omega⟩
  unfold askB
  rw [h1, (labelB_iff _).2 (h.lab k hk)]
  rfl
theorem step_p (rows : List (List Int)) (zs : List Int) (s : Sta) (k : Nat) : (inn rows zs s (k + 1)).p = (stW (inn rows zs s k).p.1 (inn rows zs s k).p.2 (rows.getD k []) (zs.getD k 0), stV (inn rows zs s k).p.1 (inn rows zs s k).p.2 (rows.getD k []) (zs.getD k 0)) := by
  cases h : same rows zs (inn rows zs s k) k
  · have hs : ¬ (side (inn rows zs s k).p.1 (inn rows zs s k).p.2 (rows.getD k []) = zs.getD k 0) := by simpa [same] using h
    rw [(inn_turn h).1]
    unfold stW stV
    rw [if_neg hs, if_neg hs]
    rfl
  · have hs : side (inn rows zs s k).p.1 (inn rows zs s k).p.2 (rows.getD k []) = zs.getD k 0 := by simpa [same] using h
    rw [(inn_same h).1]
    unfold stW stV
    rw [if_pos hs, if_pos hs]
theorem step_ok {rows : List (List Int)} {zs : List Int} (h : RF rows zs) {s : Sta} {k : Nat} (hp : okP (inn rows zs s k) = true) (hd : (inn rows zs s k).p.1.length = (rows.getD 0 []).length) (hk : k < rows.length) :
    stB (inn rows zs s k).p.1 (inn rows zs s k).p.2 (rows.getD k []) (zs.getD k 0) = okP (inn rows zs s (k + 1)) := by
  unfold stB
  rw [ask_of h hp hd k hk, Bool.true_and]
  unfold okP
  rw [step_p]
theorem step_ch (rows : List (List Int)) (zs : List Int) (s : Sta) (k : Nat) : decide (side s.p.1 s.p.2 (rows.getD k []) ≠ zs.getD k 0) = !(same rows zs s k) := by
  unfold same
  by_cases h : side s.p.1 s.p.2 (rows.getD k []) = zs.getD k 0 <;> simp [h]
set_option maxRecDepth 100000 in
set_option maxHeartbeats 4000000 in
theorem visit (i : Int) (p : Option Addr) (n q : Nat) (b : Int) (w : World) :
    Calls Try.prog 113 #[.int .i64 i, .agg #[.slice p n q, .int .i64 b]] w (fun e w' => e = .returned (.tuple #[]) ∧ Below w.heap.size w w') := by
  go_enter Try.func113, Try.ntmps113
  go_wp2_with fail
  exact bodyPost_end (v := .tuple #[]) (by simp [results, Try.results113, go_sem]) rfl ⟨rfl, below_alloc w _⟩
/-- How a round comes back. -/
def PostRound (rows : List (List Int)) (zs : List Int) (st : Sta) (w : World) (e : Ending) (w' : World) : Prop :=
  Below w.heap.size w w' ∧ (okTo rows zs st rows.length = true → ∃ v, e = .returned (.tuple #[.agg #[v, .int .i64 (inn rows zs st rows.length).p.2], .int .i64 (cn rows zs st rows.length), .bool true]) ∧ OwnI w.heap.size w'.heap.size w' v (inn rows zs st rows.length).p.1) ∧
    (okTo rows zs st rows.length = false → e = .returned (.tuple #[.agg #[.slice none 0 0, .int .i64 0], .int .i64 0, .bool false]))
set_option maxRecDepth 100000 in
set_option maxHeartbeats 4000000 in
theorem impl_round (st : Sta) (a : Option Addr) (rows : List (List Int)) (c : Nat) (a' : Option Addr) (zs : List Int) (c' : Nat) (pv : Option Addr) (qv : Nat) (w : World) (hr : grid.Reads w a rows) (hz : ints.Reads .i64 w a' zs) (hq : ints.Reads .i64 w pv st.p.1) (hF : RF rows zs) (hP : okP st = true) (hD : st.p.1.length = (rows.getD 0 []).length) :
    Calls Try.prog 142 #[.agg #[.slice a rows.length c, .slice a' zs.length c'], .agg #[.slice pv st.p.1.length qv, .int .i64 st.p.2], .func (.func 113) #[] #[]] w (PostRound rows zs st w) := by
  have HF := Lib.hid hF
  have HPS := Lib.hid hP
  have HDM := Lib.hid hD
  clear hF hP hD
  have Hhr := Lib.hid hr
  have Hhz := Lib.hid hz
  have Hhq := Lib.hid hq
  clear hr hz hq
  go_enter Try.func142, Try.ntmps142
  go_wp2_with fail
  have x0_0 : (w.alloc (.cells #[.slice a rows.length c, .slice a' zs.length c'] 27)).cell? ⟨w.heap.size, 0, none⟩ = some (.slice a rows.length c) := cell_new _ _ _ (by simp) rfl
  have x0_1 : (w.alloc (.cells #[.slice a rows.length c, .slice a' zs.length c'] 27)).cell? ⟨w.heap.size, 1, none⟩ = some (.slice a' zs.length c') := cell_new _ _ _ (by simp) rfl
  have HB0 := Lib.hid (below_alloc w (.cells #[.slice a rows.length c, .slice a' zs.length c'] 27))
  replace x0_0 := cell_old (.cells #[.slice pv st.p.1.length qv, .int .i64 st.p.2] 46) x0_0
  replace x0_1 := cell_old (.cells #[.slice pv st.p.1.length qv, .int .i64 st.p.2] 46) x0_1
  have x1_0 : ((w.alloc (.cells #[.slice a rows.length c, .slice a' zs.length c'] 27)).alloc (.cells #[.slice pv st.p.1.length qv, .int .i64 st.p.2] 46)).cell? ⟨w.heap.size + 1, 0, none⟩ = some (.slice pv st.p.1.length qv) := cell_new _ _ _ (by simp) rfl
  have x1_1 : ((w.alloc (.cells #[.slice a rows.length c, .slice a' zs.length c'] 27)).alloc (.cells #[.slice pv st.p.1.length qv, .int .i64 st.p.2] 46)).cell? ⟨w.heap.size + 1, 1, none⟩ = some (.int .i64 st.p.2) := cell_new _ _ _ (by simp) rfl
  have f1_0 : ((w.alloc (.cells #[.slice a rows.length c, .slice a' zs.length c'] 27)).alloc (.cells #[.slice pv st.p.1.length qv, .int .i64 st.p.2] 46)).frozen? ⟨w.heap.size + 1, 0, none⟩ = false := fro_new _ _ _ (by simp)
  have f1_1 : ((w.alloc (.cells #[.slice a rows.length c, .slice a' zs.length c'] 27)).alloc (.cells #[.slice pv st.p.1.length qv, .int .i64 st.p.2] 46)).frozen? ⟨w.heap.size + 1, 1, none⟩ = false := fro_new _ _ _ (by simp)
  replace HB0 := Lib.hid (HB0.out.alloc (by simp) (.cells #[.slice pv st.p.1.length qv, .int .i64 st.p.2] 46))
  replace x0_0 := cell_old (.cells #[.slice none 0 0, .int .i64 0] 46) x0_0
  replace x0_1 := cell_old (.cells #[.slice none 0 0, .int .i64 0] 46) x0_1
  replace x1_0 := cell_old (.cells #[.slice none 0 0, .int .i64 0] 46) x1_0
  replace x1_1 := cell_old (.cells #[.slice none 0 0, .int .i64 0] 46) x1_1
  replace f1_0 := fro_below (below_alloc ((w.alloc (.cells #[.slice a rows.length c, .slice a' zs.length c'] 27)).alloc (.cells #[.slice pv st.p.1.length qv, .int .i64 st.p.2] 46)) (.cells #[.slice none 0 0, .int .i64 0] 46)) f1_0 (by simp)
  replace f1_1 := fro_below (below_alloc ((w.alloc (.cells #[.slice a rows.length c, .slice a' zs.length c'] 27)).alloc (.cells #[.slice pv st.p.1.length qv, .int .i64 st.p.2] 46)) (.cells #[.slice none 0 0, .int .i64 0] 46)) f1_1 (by simp)
  have x2_0 : (((w.alloc (.cells #[.slice a rows.length c, .slice a' zs.length c'] 27)).alloc (.cells #[.slice pv st.p.1.length qv, .int .i64 st.p.2] 46)).alloc (.cells #[.slice none 0 0, .int .i64 0] 46)).cell? ⟨w.heap.size + 1 + 1, 0, none⟩ = some (.slice none 0 0) := cell_new _ _ _ (by simp) rfl
  have x2_1 : (((w.alloc (.cells #[.slice a rows.length c, .slice a' zs.length c'] 27)).alloc (.cells #[.slice pv st.p.1.length qv, .int .i64 st.p.2] 46)).alloc (.cells #[.slice none 0 0, .int .i64 0] 46)).cell? ⟨w.heap.size + 1 + 1, 1, none⟩ = some (.int .i64 0) := cell_new _ _ _ (by simp) rfl
  have f2_0 : (((w.alloc (.cells #[.slice a rows.length c, .slice a' zs.length c'] 27)).alloc (.cells #[.slice pv st.p.1.length qv, .int .i64 st.p.2] 46)).alloc (.cells #[.slice none 0 0, .int .i64 0] 46)).frozen? ⟨w.heap.size + 1 + 1, 0, none⟩ = false := fro_new _ _ _ (by simp)
  have f2_1 : (((w.alloc (.cells #[.slice a rows.length c, .slice a' zs.length c'] 27)).alloc (.cells #[.slice pv st.p.1.length qv, .int .i64 st.p.2] 46)).alloc (.cells #[.slice none 0 0, .int .i64 0] 46)).frozen? ⟨w.heap.size + 1 + 1, 1, none⟩ = false := fro_new _ _ _ (by simp)
  replace HB0 := Lib.hid (HB0.out.alloc (by simp; omega) (.cells #[.slice none 0 0, .int .i64 0] 46))
  have s0 : w.heap.size + 3 ≤ (((w.alloc (.cells #[.slice a rows.length c, .slice a' zs.length c'] 27)).alloc (.cells #[.slice pv st.p.1.length qv, .int .i64 st.p.2] 46)).alloc (.cells #[.slice none 0 0, .int .i64 0] 46)).heap.size := by simp
  generalize hw : (((w.alloc (.cells #[.slice a rows.length c, .slice a' zs.length c'] 27)).alloc (.cells #[.slice pv st.p.1.length qv, .int .i64 st.p.2] 46)).alloc (.cells #[.slice none 0 0, .int .i64 0] 46)) = w0 at *
  clear hw
  have n0_0 : w.heap.size < w0.heap.size := by omega
  have n0_1 : w.heap.size + 1 < w0.heap.size := by omega
  have n0_2 : w.heap.size + 1 + 1 < w0.heap.size := by omega
  have HOT := Lib.hid (show w0.cell? ⟨w.heap.size, 0, none⟩ = some (.slice a rows.length c) ∧ w0.cell? ⟨w.heap.size, 1, none⟩ = some (.slice a' zs.length c') ∧ w0.cell? ⟨w.heap.size + 2, 0, none⟩ = some (.slice none 0 0) ∧ w0.cell? ⟨w.heap.size + 2, 1, none⟩ = some (.int .i64 0) ∧ w0.frozen? ⟨w.heap.size + 2, 0, none⟩ = false ∧ w0.frozen? ⟨w.heap.size + 2, 1, none⟩ = false ∧ w0.frozen? ⟨w.heap.size + 1, 0, none⟩ = false ∧ w0.frozen? ⟨w.heap.size + 1, 1, none⟩ = false from ⟨x0_0, x0_1, x2_0, x2_1, f2_0, f2_1, f1_0, f1_1⟩)
  have HREL := Lib.hid (show ∃ (pv : Option Addr) (qv : Nat), (w0.cell? ⟨w.heap.size + 1, 0, none⟩ = some (.slice pv (inn rows zs st 0).p.1.length qv) ∧ w0.cell? ⟨w.heap.size + 1, 1, none⟩ = some (.int .i64 (inn rows zs st 0).p.2)) ∧ ints.Reads .i64 w0 pv (inn rows zs st 0).p.1 ∧ (0 < 0 → OwnI (w.heap.size + 3) w0.heap.size w0 (.slice pv (inn rows zs st 0).p.1.length qv) (inn rows zs st 0).p.1) from ⟨pv, qv, ⟨x1_0, x1_1⟩, Hhq.out.below HB0.out, fun h => absurd h (by decide)⟩)
  clear x0_1 x1_0 x1_1 x2_0 x2_1 f2_0 f2_1
  have hs2 : w.heap.size + 2 < w0.heap.size := by omega
  have HsC := Lib.hid hs2
  go_wp2_with fail
  clear x0_0
  go_loopw [9, 18] (fun m i wr => ∃ k : Nat, k ≤ rows.length ∧ m = .int .i64 (cn rows zs st k) ∧ i = .int .i64 k ∧ Hid (∀ q, q < k → okP (inn rows zs st (q + 1)) = true) ∧ Hid (∃ (pv : Option Addr) (qv : Nat), (wr.cell? ⟨w.heap.size + 1, 0, none⟩ = some (.slice pv (inn rows zs st k).p.1.length qv) ∧ wr.cell? ⟨w.heap.size + 1, 1, none⟩ = some (.int .i64 (inn rows zs st k).p.2)) ∧ ints.Reads .i64 wr pv (inn rows zs st k).p.1 ∧ (0 < k → OwnI (w.heap.size + 3) wr.heap.size wr (.slice pv (inn rows zs st k).p.1.length qv) (inn rows zs st k).p.1)) ∧ Hid (wr.cell? ⟨w.heap.size, 0, none⟩ = some (.slice a rows.length c) ∧ wr.cell? ⟨w.heap.size, 1, none⟩ = some (.slice a' zs.length c') ∧ wr.cell? ⟨w.heap.size + 2, 0, none⟩ = some (.slice none 0 0) ∧ wr.cell? ⟨w.heap.size + 2, 1, none⟩ = some (.int .i64 0) ∧ wr.frozen? ⟨w.heap.size + 2, 0, none⟩ = false ∧ wr.frozen? ⟨w.heap.size + 2, 1, none⟩ = false ∧ wr.frozen? ⟨w.heap.size + 1, 0, none⟩ = false ∧ wr.frozen? ⟨w.heap.size + 1, 1, none⟩ = false) ∧ Hid (Below w.heap.size w wr) ∧ Hid (w.heap.size + 2 < wr.heap.size)) (fun _ i _ => rows.length - (intOf i).toNat)
  case atStart => exact ⟨0, Nat.zero_le _, rfl, rfl, Lib.hid (fun q hq => by omega), HREL, HOT, HB0, HsC⟩
  case round =>
    obtain ⟨k, hk, rfl, rfl, HOK, HR, HX, HBl, HS⟩ := hrel
    clear HREL HOT HsC hs2
    have hs2 := HS.out
    have hcn := cn_le rows zs st k
    have HPK := Lib.hid (show okP (inn rows zs st k) = true from by
      cases k with
      | zero => exact HPS.out
      | succ k => exact HOK.out k (by omega))
    have HLE := Lib.hid (show (inn rows zs st k).p.1.length = (rows.getD 0 []).length from by rw [inn_len]; exact HDM.out)
    obtain ⟨pv, qv, hpc, hpr, hpo⟩ := HR.out
    clear HR
    by_cases hlt : k < rows.length
    · cases hok : okP (inn rows zs st (k + 1))
      · obtain ⟨bl, off, rp, rq, rfl, hbl, hc, hpq, hrow⟩ := Hhr.out.at hlt
        obtain ⟨lb, lo, rfl, hll, hlc⟩ := Hhz.out.at (k := k) (by have := HF.out.both; omega)
        have hbel := HBl.out
        have HROW := Lib.hid (hrow.below hbel)
        replace hc := cell_below hbel hc hbl
        replace hlc := cell_below hbel hlc hll
        have xl := HX.out.2.1
        obtain ⟨y0, y1⟩ := hpc
        have HPR := Lib.hid hpr
        have HSB := Lib.hid (step_ok HF.out HPK.out HLE.out hlt)
        have HST := Lib.hid (step_p rows zs st k)
        have HL4 := Lib.hid (st_fit HF.out HPK.out HLE.out k hlt)
        have s16 := HF.out.few
        have i1 : (0 : Int) ≤ (k : Int) := by omega
        have i2 : (k : Int) < (rows.length : Int) := by omega
        have i3 : (k : Int) < (zs.length : Int) := by have := HF.out.both; omega
        clear hrow hpq hpr hpo hbel
        have HNT := Lib.hid (okTo_no hlt hok)
        have HSB2 := Lib.hid (HSB.out.trans hok)
        clear hok HSB
        generalize inn rows zs st k = sn at *
        generalize cn rows zs st k = cnt at *
        obtain ⟨⟨ws, b⟩, smi, str, spl⟩ := sn
        dsimp only at *
        generalize rows.getD k [] = r at *
        generalize zs.getD k 0 = y at *
        have HT := Lib.hid (show ∀ wa : World, (wa.cell? ⟨w.heap.size, 1, none⟩ = some (.slice (some ⟨lb, lo, none⟩) zs.length c') ∧ wa.cell? ⟨lb, lo + k, none⟩ = some (.int .i64 y) ∧ wa.cell? ⟨w.heap.size + 1, 0, none⟩ = some (.slice pv ws.length qv) ∧ wa.cell? ⟨w.heap.size + 1, 1, none⟩ = some (.int .i64 b) ∧ Below wr.heap.size wr wa) → Calls Try.prog 48 #[.agg #[.slice pv ws.length qv, .int .i64 b], .slice rp r.length rq, .int .i64 y] wa (fun e w' => ∃ (p1 : Option Addr) (q1 : Nat), e = .returned (.tuple #[.agg #[.slice p1 0 q1, .int .i64 0], .bool false, .bool false]) ∧ Below wa.heap.size wa w' ∧ w'.cell? ⟨w.heap.size, 1, none⟩ = some (.slice (some ⟨lb, lo, none⟩) zs.length c') ∧ w'.cell? ⟨lb, lo + k, none⟩ = some (.int .i64 y) ∧ w'.cell? ⟨w.heap.size + 1, 0, none⟩ = some (.slice pv ws.length qv) ∧ w'.cell? ⟨w.heap.size + 1, 1, none⟩ = some (.int .i64 b) ∧ Below wr.heap.size wr w') from fun wa hS => by
          refine (stepperc.impl_no pv ws qv b rp r rq y wa (HPR.out.below hS.2.2.2.2) (HROW.out.below hS.2.2.2.2) (by have := HL4.out.le; omega) (by have := HL4.out.len; have := HL4.out.le; omega) HSB2.out).mono ?_
          rintro e w' ⟨v', rfl, ho, hb⟩
          obtain ⟨p1, q1, rfl, _, _, _⟩ := ho.slice
          exact ⟨p1, q1, rfl, hb, cell_below hb hS.1 (by have := hS.2.2.2.2.size; omega), cell_below hb hS.2.1 (by have := hS.2.2.2.2.size; omega), cell_below hb hS.2.2.1 (by have := hS.2.2.2.2.size; omega), cell_below hb hS.2.2.2.1 (by have := hS.2.2.2.2.size; omega), hS.2.2.2.2.trans (hb.mono hS.2.2.2.2.size)⟩)
        go_wp2_with fail
        refine wp_region_noPanic ?_
        refine wp_region_held_drew (S := fun w' => w'.cell? ⟨w.heap.size, 1, none⟩ = some (.slice (some ⟨lb, lo, none⟩) zs.length c') ∧ w'.cell? ⟨lb, lo + k, none⟩ = some (.int .i64 y) ∧ w'.cell? ⟨w.heap.size + 1, 0, none⟩ = some (.slice pv ws.length qv) ∧ w'.cell? ⟨w.heap.size + 1, 1, none⟩ = some (.int .i64 b) ∧ Below wr.heap.size wr w') (by kernel_rfl) ?_ (fun hHeld => ?_)
        · exact ⟨xl, hlc, y0, y1, (Below.refl _ _).drew⟩
        refine wpAnyH_take (i := 0) (v := ?_) rfl (by kernel_rfl) (by kernel_rfl) (by kernel_rfl) (fun _ _ _ h => h) (Or.inl ⟨by rfl, ?_⟩) (by assumption) ?_
        rotate_left
        · intro w9 hSw; (try dsimp only at hSw); go_simp; try with_reducible rfl
        try simp only [List.getElem_toArray, List.getElem_cons_succ, List.getElem_cons_zero, Act.put, List.setIfInBounds_toArray, List.set_cons_zero, List.set_cons_succ]
        refine wpAnyH_take (i := 1) (v := ?_) rfl (by kernel_rfl) (by kernel_rfl) (by kernel_rfl) (fun _ _ _ h => h) (Or.inl ⟨by rfl, ?_⟩) (by assumption) ?_
        rotate_left
        · intro w9 hSw; (try dsimp only at hSw); go_simp; try with_reducible rfl
        try simp only [List.getElem_toArray, List.getElem_cons_succ, List.getElem_cons_zero, Act.put, List.setIfInBounds_toArray, List.set_cons_zero, List.set_cons_succ]
        refine wpAnyH_take (i := 2) (v := ?_) rfl (by kernel_rfl) (by kernel_rfl) (by kernel_rfl) (fun _ _ _ h => h) (Or.inl ⟨by rfl, ?_⟩) (by assumption) ?_
        rotate_left
        · intro w9 hSw; (try dsimp only at hSw); go_simp; try with_reducible rfl
        try simp only [List.getElem_toArray, List.getElem_cons_succ, List.getElem_cons_zero, Act.put, List.setIfInBounds_toArray, List.set_cons_zero, List.set_cons_succ]
        refine wpAnyH_take (i := 3) (v := ?_) rfl (by kernel_rfl) (by kernel_rfl) (by kernel_rfl) (fun _ _ _ h => h) (Or.inl ⟨by rfl, ?_⟩) (by assumption) ?_
        rotate_left
        · intro w9 hSw; (try dsimp only at hSw); go_simp; try with_reducible rfl
        try simp only [List.getElem_toArray, List.getElem_cons_succ, List.getElem_cons_zero, Act.put, List.setIfInBounds_toArray, List.set_cons_zero, List.set_cons_succ]
        refine wpAnyH_take (i := 4) (v := ?_) rfl (by kernel_rfl) (by kernel_rfl) (by kernel_rfl) (fun _ _ _ h => h) (Or.inl ⟨by rfl, ?_⟩) (by assumption) ?_
        rotate_left
        · intro w9 hSw; (try dsimp only at hSw); go_simp; try with_reducible rfl
        try simp only [List.getElem_toArray, List.getElem_cons_succ, List.getElem_cons_zero, Act.put, List.setIfInBounds_toArray, List.set_cons_zero, List.set_cons_succ]
        refine wpAnyH_take (i := 5) (v := ?_) rfl (by kernel_rfl) (by kernel_rfl) (by kernel_rfl) (fun _ _ _ h => h) (Or.inl ⟨by rfl, ?_⟩) (by assumption) ?_
        rotate_left
        · intro w9 hSw; (try dsimp only at hSw); go_simp; try with_reducible rfl
        try simp only [List.getElem_toArray, List.getElem_cons_succ, List.getElem_cons_zero, Act.put, List.setIfInBounds_toArray, List.set_cons_zero, List.set_cons_succ]
        refine wpAnyH_take (i := 6) (v := ?_) rfl (by kernel_rfl) (by kernel_rfl) (by kernel_rfl) (fun _ _ _ h => h) (Or.inl ⟨by rfl, ?_⟩) (by assumption) ?_
        rotate_left
        · intro w9 hSw; (try dsimp only at hSw); go_simp; try with_reducible rfl
        try simp only [List.getElem_toArray, List.getElem_cons_succ, List.getElem_cons_zero, Act.put, List.setIfInBounds_toArray, List.set_cons_zero, List.set_cons_succ]
        refine wpAnyH_ready (rs := [7, 12]) (by kernel_rfl) (by simp) ?_
        refine AllReadyH.cons rfl (fun K hK => ?_) ?_
        · go_simp
          refine Calls.mono (HT.out _ ?_) ?_
          · exact hHeld
          clear hHeld
          rintro e va ⟨p1, q1, rfl, hbb, hbx⟩
          refine hK.out _ _ ?_ (fun hHeld => ?_)
          · exact hbx
          clear hK K
          try simp only [List.getElem_toArray, List.getElem_cons_succ, List.getElem_cons_zero, Act.put, List.setIfInBounds_toArray, List.set_cons_zero, List.set_cons_succ]
          refine wpAnyH_take (i := 8) (v := ?_) rfl (by kernel_rfl) (by kernel_rfl) (by kernel_rfl) (fun _ _ _ h => h) (Or.inl ⟨by rfl, ?_⟩) (by assumption) ?_
          rotate_left
          · intro w9 hSw; (try dsimp only at hSw); go_simp; try with_reducible rfl
          try simp only [List.getElem_toArray, List.getElem_cons_succ, List.getElem_cons_zero, Act.put, List.setIfInBounds_toArray, List.set_cons_zero, List.set_cons_succ]
          refine wpAnyH_take (i := 9) (v := ?_) rfl (by kernel_rfl) (by kernel_rfl) (by kernel_rfl) (fun _ _ _ h => h) (Or.inl ⟨by rfl, ?_⟩) (by assumption) ?_
          rotate_left
          · intro w9 hSw; (try dsimp only at hSw); go_simp; try with_reducible rfl
          try simp only [List.getElem_toArray, List.getElem_cons_succ, List.getElem_cons_zero, Act.put, List.setIfInBounds_toArray, List.set_cons_zero, List.set_cons_succ]
          refine wpAnyH_take (i := 10) (v := ?_) rfl (by kernel_rfl) (by kernel_rfl) (by kernel_rfl) (fun _ _ _ h => h) (Or.inl ⟨by rfl, ?_⟩) (by assumption) ?_
          rotate_left
          · intro w9 hSw; (try dsimp only at hSw); go_simp; try with_reducible rfl
          try simp only [List.getElem_toArray, List.getElem_cons_succ, List.getElem_cons_zero, Act.put, List.setIfInBounds_toArray, List.set_cons_zero, List.set_cons_succ]
          refine wpAnyH_take (i := 11) (v := ?_) rfl (by kernel_rfl) (by kernel_rfl) (by kernel_rfl) (fun _ _ _ h => h) (Or.inl ⟨by rfl, ?_⟩) (by assumption) ?_
          rotate_left
          · intro w9 hSw; (try dsimp only at hSw); go_simp; try with_reducible rfl
          try simp only [List.getElem_toArray, List.getElem_cons_succ, List.getElem_cons_zero, Act.put, List.setIfInBounds_toArray, List.set_cons_zero, List.set_cons_succ]
          refine wpAnyH_ready (rs := [12]) (by kernel_rfl) (by simp) ?_
          refine AllReadyH.cons rfl (fun K hK => ?_) ?_
          · go_simp
            refine hK.out _ _ ?_ (fun hHeld => ?_)
            · exact ⟨cell_old _ hbx.1, cell_old _ hbx.2.1, cell_old _ hbx.2.2.1, cell_old _ hbx.2.2.2.1, hbx.2.2.2.2.alloc hbx.2.2.2.2.size _⟩
            clear hK K
            try simp only [List.getElem_toArray, List.getElem_cons_succ, List.getElem_cons_zero, Act.put, List.setIfInBounds_toArray, List.set_cons_zero, List.set_cons_succ]
            refine wpAnyH_ready (rs := [13]) (by kernel_rfl) (by simp) ?_
            refine AllReadyH.cons rfl (fun K hK => ?_) ?_
            · go_simp
              refine hK.out _ _ ?_ (fun hHeld => ?_)
              · exact ⟨cell_old _ hbx.1, cell_old _ hbx.2.1, cell_old _ hbx.2.2.1, cell_old _ hbx.2.2.2.1, hbx.2.2.2.2.alloc hbx.2.2.2.2.size _⟩
              clear hK K
              try simp only [List.getElem_toArray, List.getElem_cons_succ, List.getElem_cons_zero, Act.put, List.setIfInBounds_toArray, List.set_cons_zero, List.set_cons_succ]
              refine wpAnyH_take (i := 14) (v := ?_) rfl (by kernel_rfl) (by kernel_rfl) (by kernel_rfl) (fun _ _ _ h => h) (Or.inl ⟨by rfl, ?_⟩) (by assumption) ?_
              rotate_left
              · intro w9 hSw; (try dsimp only at hSw); go_simp; try with_reducible rfl
              try simp only [List.getElem_toArray, List.getElem_cons_succ, List.getElem_cons_zero, Act.put, List.setIfInBounds_toArray, List.set_cons_zero, List.set_cons_succ]
              refine wpAnyH_take (i := 15) (v := ?_) rfl (by kernel_rfl) (by kernel_rfl) (by kernel_rfl) (fun _ _ _ h => h) (Or.inl ⟨by rfl, ?_⟩) (by assumption) ?_
              rotate_left
              · intro w9 hSw; (try dsimp only at hSw); go_simp; try with_reducible rfl
              try simp only [List.getElem_toArray, List.getElem_cons_succ, List.getElem_cons_zero, Act.put, List.setIfInBounds_toArray, List.set_cons_zero, List.set_cons_succ]
              refine wpAnyH_done (by kernel_rfl) ?_ _
              refine NoPanic.normal ?_
              have HN5 := Lib.hid (show (va.alloc (.cells #[.slice p1 0 q1, .int .i64 0] 46)).cell? ⟨va.heap.size, 0, none⟩ = some (.slice p1 0 q1) ∧ (va.alloc (.cells #[.slice p1 0 q1, .int .i64 0] 46)).cell? ⟨va.heap.size, 1, none⟩ = some (.int .i64 0) from ⟨cell_new _ _ _ rfl rfl, cell_new _ _ _ rfl rfl⟩)
              have HB6 := Lib.hid hHeld.2.2.2.2
              have hNB : wr.heap.size ≤ va.heap.size ∧ va.heap.size < (va.alloc (.cells #[.slice p1 0 q1, .int .i64 0] 46)).heap.size := ⟨by have := hbx.2.2.2.2.size; omega, by first | (simp; done) | (have := hbb.size; simp at this ⊢; omega)⟩
              clear hHeld hbx hbb HT
              generalize (va.alloc (.cells #[.slice p1 0 q1, .int .i64 0] 46)) = w5 at *
              generalize va.heap.size = NB at *
              have n0 := HN5.out.1
              have n1 := HN5.out.2
              have hs5 := HB6.out.size
              obtain ⟨u0, u1, u2, u3, u4, u5, u6, u7⟩ := (show w5.cell? ⟨w.heap.size, 0, none⟩ = some (.slice (some ⟨bl, off, none⟩) rows.length c) ∧ w5.cell? ⟨w.heap.size, 1, none⟩ = some (.slice (some ⟨lb, lo, none⟩) zs.length c') ∧ w5.cell? ⟨w.heap.size + 2, 0, none⟩ = some (.slice none 0 0) ∧ w5.cell? ⟨w.heap.size + 2, 1, none⟩ = some (.int .i64 0) ∧ w5.frozen? ⟨w.heap.size + 2, 0, none⟩ = false ∧ w5.frozen? ⟨w.heap.size + 2, 1, none⟩ = false ∧ w5.frozen? ⟨w.heap.size + 1, 0, none⟩ = false ∧ w5.frozen? ⟨w.heap.size + 1, 1, none⟩ = false from ⟨cell_below HB6.out HX.out.1 (by omega), cell_below HB6.out HX.out.2.1 (by omega), cell_below HB6.out HX.out.2.2.1 (by omega), cell_below HB6.out HX.out.2.2.2.1 (by omega), fro_below HB6.out HX.out.2.2.2.2.1 (by omega), fro_below HB6.out HX.out.2.2.2.2.2.1 (by omega), fro_below HB6.out HX.out.2.2.2.2.2.2.1 (by omega), fro_below HB6.out HX.out.2.2.2.2.2.2.2 (by omega)⟩)
              have HX5 := Lib.hid (And.intro u0 (And.intro u1 (And.intro u2 (And.intro u3 (And.intro u4 (And.intro u5 (And.intro u6 u7)))))))
              have HBW := Lib.hid (HBl.out.trans (HB6.out.mono (by have := HBl.out.size; omega)))
              clear u0 u1 u6 u7
              go_wp2_with fail
              refine bodyPost_ret (v := .tuple #[.agg #[.slice none 0 0, .int .i64 0], .int .i64 0, .bool false]) (by simp [results, Try.results142, go_sem, u2, u3]) rfl ⟨(HBW.out.setCell (by simp; omega) _).setCell (by simp; omega) _, (fun h => by rw [HNT.out] at h; cases h), fun _ => rfl⟩
            exact AllReadyH.nil
          exact AllReadyH.nil
        refine AllReadyH.cons rfl (fun K hK => ?_) ?_
        · go_simp
          refine hK.out _ _ ?_ (fun hHeld => ?_)
          · exact ⟨cell_old _ xl, cell_old _ hlc, cell_old _ y0, cell_old _ y1, ((Below.refl _ _).drew.alloc (Nat.le_refl _) _)⟩
          clear hK K
          try simp only [List.getElem_toArray, List.getElem_cons_succ, List.getElem_cons_zero, Act.put, List.setIfInBounds_toArray, List.set_cons_zero, List.set_cons_succ]
          refine wpAnyH_ready (rs := [7]) (by kernel_rfl) (by simp) ?_
          refine AllReadyH.cons rfl (fun K hK => ?_) ?_
          · go_simp
            refine Calls.mono (HT.out _ ?_) ?_
            · exact hHeld
            clear hHeld
            rintro e va ⟨p1, q1, rfl, hbb, hbx⟩
            refine hK.out _ _ ?_ (fun hHeld => ?_)
            · exact hbx
            clear hK K
            try simp only [List.getElem_toArray, List.getElem_cons_succ, List.getElem_cons_zero, Act.put, List.setIfInBounds_toArray, List.set_cons_zero, List.set_cons_succ]
            have y8 := cell_below hbb (show (wr.drew.alloc (.cells #[.slice none 0 0, .int .i64 0] 46)).cell? ⟨wr.heap.size, 0, none⟩ = some (.slice none 0 0) from cell_new _ _ _ rfl rfl) (by simp)
            have y9 := cell_below hbb (show (wr.drew.alloc (.cells #[.slice none 0 0, .int .i64 0] 46)).cell? ⟨wr.heap.size, 1, none⟩ = some (.int .i64 0) from cell_new _ _ _ rfl rfl) (by simp)
            have z8 := fro_below hbb (show (wr.drew.alloc (.cells #[.slice none 0 0, .int .i64 0] 46)).frozen? ⟨wr.heap.size, 0, none⟩ = false from fro_new _ _ _ rfl) (by simp)
            have z9 := fro_below hbb (show (wr.drew.alloc (.cells #[.slice none 0 0, .int .i64 0] 46)).frozen? ⟨wr.heap.size, 1, none⟩ = false from fro_new _ _ _ rfl) (by simp)
            refine wpAnyH_take (i := 8) (v := ?_) rfl (by kernel_rfl) (by kernel_rfl) (by kernel_rfl) (fun _ _ _ h => h) (Or.inl ⟨by rfl, ?_⟩) (by assumption) ?_
            rotate_left
            · intro w9 hSw; (try dsimp only at hSw); go_simp; try with_reducible rfl
            try simp only [List.getElem_toArray, List.getElem_cons_succ, List.getElem_cons_zero, Act.put, List.setIfInBounds_toArray, List.set_cons_zero, List.set_cons_succ]
            refine wpAnyH_take (i := 9) (v := ?_) rfl (by kernel_rfl) (by kernel_rfl) (by kernel_rfl) (fun _ _ _ h => h) (Or.inl ⟨by rfl, ?_⟩) (by assumption) ?_
            rotate_left
            · intro w9 hSw; (try dsimp only at hSw); go_simp; try with_reducible rfl
            try simp only [List.getElem_toArray, List.getElem_cons_succ, List.getElem_cons_zero, Act.put, List.setIfInBounds_toArray, List.set_cons_zero, List.set_cons_succ]
            refine wpAnyH_take (i := 10) (v := ?_) rfl (by kernel_rfl) (by kernel_rfl) (by kernel_rfl) (fun _ _ _ h => h) (Or.inl ⟨by rfl, ?_⟩) (by assumption) ?_
            rotate_left
            · intro w9 hSw; (try dsimp only at hSw); go_simp; try with_reducible rfl
            try simp only [List.getElem_toArray, List.getElem_cons_succ, List.getElem_cons_zero, Act.put, List.setIfInBounds_toArray, List.set_cons_zero, List.set_cons_succ]
            refine wpAnyH_take (i := 11) (v := ?_) rfl (by kernel_rfl) (by kernel_rfl) (by kernel_rfl) (fun _ _ _ h => h) (Or.inl ⟨by rfl, ?_⟩) (by assumption) ?_
            rotate_left
            · intro w9 hSw; (try dsimp only at hSw); go_simp; try with_reducible rfl
            try simp only [List.getElem_toArray, List.getElem_cons_succ, List.getElem_cons_zero, Act.put, List.setIfInBounds_toArray, List.set_cons_zero, List.set_cons_succ]
            refine wpAnyH_ready (rs := [13]) (by kernel_rfl) (by simp) ?_
            refine AllReadyH.cons rfl (fun K hK => ?_) ?_
            · go_simp
              refine hK.out _ _ ?_ (fun hHeld => ?_)
              · exact ⟨cell_set (cell_set hbx.1 (by first | (simp; done) | (simp; omega) | omega) _) (by first | (simp; done) | (simp; omega) | omega) _, cell_set (cell_set hbx.2.1 (by first | (simp; done) | (simp; omega) | omega) _) (by first | (simp; done) | (simp; omega) | omega) _, cell_set (cell_set hbx.2.2.1 (by first | (simp; done) | (simp; omega) | omega) _) (by first | (simp; done) | (simp; omega) | omega) _, cell_set (cell_set hbx.2.2.2.1 (by first | (simp; done) | (simp; omega) | omega) _) (by first | (simp; done) | (simp; omega) | omega) _, (hbx.2.2.2.2.setCell (by simp) _).setCell (by simp) _⟩
              clear hK K
              try simp only [List.getElem_toArray, List.getElem_cons_succ, List.getElem_cons_zero, Act.put, List.setIfInBounds_toArray, List.set_cons_zero, List.set_cons_succ]
              refine wpAnyH_take (i := 14) (v := ?_) rfl (by kernel_rfl) (by kernel_rfl) (by kernel_rfl) (fun _ _ _ h => h) (Or.inl ⟨by rfl, ?_⟩) (by assumption) ?_
              rotate_left
              · intro w9 hSw; (try dsimp only at hSw); go_simp; try with_reducible rfl
              try simp only [List.getElem_toArray, List.getElem_cons_succ, List.getElem_cons_zero, Act.put, List.setIfInBounds_toArray, List.set_cons_zero, List.set_cons_succ]
              refine wpAnyH_take (i := 15) (v := ?_) rfl (by kernel_rfl) (by kernel_rfl) (by kernel_rfl) (fun _ _ _ h => h) (Or.inl ⟨by rfl, ?_⟩) (by assumption) ?_
              rotate_left
              · intro w9 hSw; (try dsimp only at hSw); go_simp; try with_reducible rfl
              try simp only [List.getElem_toArray, List.getElem_cons_succ, List.getElem_cons_zero, Act.put, List.setIfInBounds_toArray, List.set_cons_zero, List.set_cons_succ]
              refine wpAnyH_done (by kernel_rfl) ?_ _
              refine NoPanic.normal ?_
              have HN5 := Lib.hid (show ((va.setCell ⟨wr.heap.size, 0, none⟩ (.slice p1 0 q1)).setCell ⟨wr.heap.size, 1, none⟩ (.int .i64 0)).cell? ⟨wr.heap.size, 0, none⟩ = some (.slice p1 0 q1) ∧ ((va.setCell ⟨wr.heap.size, 0, none⟩ (.slice p1 0 q1)).setCell ⟨wr.heap.size, 1, none⟩ (.int .i64 0)).cell? ⟨wr.heap.size, 1, none⟩ = some (.int .i64 0) from ⟨(World.cell?_setCell_other _ _ _ _ (by simp)).trans (World.cell?_setCell_same _ _ _ y8), World.cell?_setCell_same _ _ _ ((World.cell?_setCell_other _ _ _ _ (by simp)).trans y9)⟩)
              have HB6 := Lib.hid hHeld.2.2.2.2
              have hNB : wr.heap.size ≤ wr.heap.size ∧ wr.heap.size < ((va.setCell ⟨wr.heap.size, 0, none⟩ (.slice p1 0 q1)).setCell ⟨wr.heap.size, 1, none⟩ (.int .i64 0)).heap.size := ⟨by have := hbx.2.2.2.2.size; omega, by first | (simp; done) | (have := hbb.size; simp at this ⊢; omega)⟩
              clear hHeld hbx hbb HT y8 y9 z8 z9
              generalize ((va.setCell ⟨wr.heap.size, 0, none⟩ (.slice p1 0 q1)).setCell ⟨wr.heap.size, 1, none⟩ (.int .i64 0)) = w5 at *
              have n0 := HN5.out.1
              have n1 := HN5.out.2
              have hs5 := HB6.out.size
              obtain ⟨u0, u1, u2, u3, u4, u5, u6, u7⟩ := (show w5.cell? ⟨w.heap.size, 0, none⟩ = some (.slice (some ⟨bl, off, none⟩) rows.length c) ∧ w5.cell? ⟨w.heap.size, 1, none⟩ = some (.slice (some ⟨lb, lo, none⟩) zs.length c') ∧ w5.cell? ⟨w.heap.size + 2, 0, none⟩ = some (.slice none 0 0) ∧ w5.cell? ⟨w.heap.size + 2, 1, none⟩ = some (.int .i64 0) ∧ w5.frozen? ⟨w.heap.size + 2, 0, none⟩ = false ∧ w5.frozen? ⟨w.heap.size + 2, 1, none⟩ = false ∧ w5.frozen? ⟨w.heap.size + 1, 0, none⟩ = false ∧ w5.frozen? ⟨w.heap.size + 1, 1, none⟩ = false from ⟨cell_below HB6.out HX.out.1 (by omega), cell_below HB6.out HX.out.2.1 (by omega), cell_below HB6.out HX.out.2.2.1 (by omega), cell_below HB6.out HX.out.2.2.2.1 (by omega), fro_below HB6.out HX.out.2.2.2.2.1 (by omega), fro_below HB6.out HX.out.2.2.2.2.2.1 (by omega), fro_below HB6.out HX.out.2.2.2.2.2.2.1 (by omega), fro_below HB6.out HX.out.2.2.2.2.2.2.2 (by omega)⟩)
              have HX5 := Lib.hid (And.intro u0 (And.intro u1 (And.intro u2 (And.intro u3 (And.intro u4 (And.intro u5 (And.intro u6 u7)))))))
              have HBW := Lib.hid (HBl.out.trans (HB6.out.mono (by have := HBl.out.size; omega)))
              clear u0 u1 u6 u7
              go_wp2_with fail
              refine bodyPost_ret (v := .tuple #[.agg #[.slice none 0 0, .int .i64 0], .int .i64 0, .bool false]) (by simp [results, Try.results142, go_sem, u2, u3]) rfl ⟨(HBW.out.setCell (by simp; omega) _).setCell (by simp; omega) _, (fun h => by rw [HNT.out] at h; cases h), fun _ => rfl⟩
            exact AllReadyH.nil
          exact AllReadyH.nil
        exact AllReadyH.nil
      cases hsm : same rows zs (inn rows zs st k) k
      · obtain ⟨bl, off, rp, rq, rfl, hbl, hc, hpq, hrow⟩ := Hhr.out.at hlt
        obtain ⟨lb, lo, rfl, hll, hlc⟩ := Hhz.out.at (k := k) (by have := HF.out.both; omega)
        have hbel := HBl.out
        have HROW := Lib.hid (hrow.below hbel)
        replace hc := cell_below hbel hc hbl
        replace hlc := cell_below hbel hlc hll
        have xl := HX.out.2.1
        obtain ⟨y0, y1⟩ := hpc
        have HPR := Lib.hid hpr
        have HSB := Lib.hid (step_ok HF.out HPK.out HLE.out hlt)
        have HST := Lib.hid (step_p rows zs st k)
        have HL4 := Lib.hid (st_fit HF.out HPK.out HLE.out k hlt)
        have s16 := HF.out.few
        have i1 : (0 : Int) ≤ (k : Int) := by omega
        have i2 : (k : Int) < (rows.length : Int) := by omega
        have i3 : (k : Int) < (zs.length : Int) := by have := HF.out.both; omega
        clear hrow hpq hpr hpo hbel
        have HOK2 := Lib.hid (show ∀ q, q < k + 1 → okP (inn rows zs st (q + 1)) = true from fun q hq => by
          by_cases e : q = k
          · rw [e]; exact hok
          · exact HOK.out q (by omega))
        have HCN := Lib.hid (show cn rows zs st (k + 1) = cn rows zs st k + 1 from (inn_turn hsm).2)
        have HCH := Lib.hid (show decide (side (inn rows zs st k).p.1 (inn rows zs st k).p.2 (rows.getD k []) ≠ zs.getD k 0) = true from by rw [step_ch, hsm]; rfl)
        have HSB2 := Lib.hid (HSB.out.trans hok)
        clear hok hsm HSB
        generalize inn rows zs st k = sn at *
        generalize cn rows zs st k = cnt at *
        obtain ⟨⟨ws, b⟩, smi, str, spl⟩ := sn
        dsimp only at *
        generalize rows.getD k [] = r at *
        generalize zs.getD k 0 = y at *
        have HT := Lib.hid (show ∀ wa : World, (wa.cell? ⟨w.heap.size, 1, none⟩ = some (.slice (some ⟨lb, lo, none⟩) zs.length c') ∧ wa.cell? ⟨lb, lo + k, none⟩ = some (.int .i64 y) ∧ wa.cell? ⟨w.heap.size + 1, 0, none⟩ = some (.slice pv ws.length qv) ∧ wa.cell? ⟨w.heap.size + 1, 1, none⟩ = some (.int .i64 b) ∧ Below wr.heap.size wr wa) → Calls Try.prog 48 #[.agg #[.slice pv ws.length qv, .int .i64 b], .slice rp r.length rq, .int .i64 y] wa (fun e w' => ∃ (p1 : Option Addr) (q1 : Nat), e = .returned (.tuple #[.agg #[.slice p1 (stW ws b r y).length q1, .int .i64 (stV ws b r y)], .bool true, .bool true]) ∧ OwnI wa.heap.size w'.heap.size w' (.slice p1 (stW ws b r y).length q1) (stW ws b r y) ∧ Below wa.heap.size wa w' ∧ w'.cell? ⟨w.heap.size, 1, none⟩ = some (.slice (some ⟨lb, lo, none⟩) zs.length c') ∧ w'.cell? ⟨lb, lo + k, none⟩ = some (.int .i64 y) ∧ w'.cell? ⟨w.heap.size + 1, 0, none⟩ = some (.slice pv ws.length qv) ∧ w'.cell? ⟨w.heap.size + 1, 1, none⟩ = some (.int .i64 b) ∧ Below wr.heap.size wr w') from fun wa hS => by
          refine (stepperc.impl_yes pv ws qv b rp r rq y wa (HPR.out.below hS.2.2.2.2) (HROW.out.below hS.2.2.2.2) (by have := HL4.out.le; omega) (by have := HL4.out.len; have := HL4.out.le; omega) HSB2.out).mono ?_
          rintro e w' ⟨v', rfl, ho, hb⟩
          obtain ⟨p1, q1, rfl, _, _, _⟩ := ho.slice
          exact ⟨p1, q1, by rw [HCH.out], ho, hb, cell_below hb hS.1 (by have := hS.2.2.2.2.size; omega), cell_below hb hS.2.1 (by have := hS.2.2.2.2.size; omega), cell_below hb hS.2.2.1 (by have := hS.2.2.2.2.size; omega), cell_below hb hS.2.2.2.1 (by have := hS.2.2.2.2.size; omega), hS.2.2.2.2.trans (hb.mono hS.2.2.2.2.size)⟩)
        go_wp2_with fail
        refine wp_region_noPanic ?_
        refine wp_region_held_drew (S := fun w' => w'.cell? ⟨w.heap.size, 1, none⟩ = some (.slice (some ⟨lb, lo, none⟩) zs.length c') ∧ w'.cell? ⟨lb, lo + k, none⟩ = some (.int .i64 y) ∧ w'.cell? ⟨w.heap.size + 1, 0, none⟩ = some (.slice pv ws.length qv) ∧ w'.cell? ⟨w.heap.size + 1, 1, none⟩ = some (.int .i64 b) ∧ Below wr.heap.size wr w') (by kernel_rfl) ?_ (fun hHeld => ?_)
        · exact ⟨xl, hlc, y0, y1, (Below.refl _ _).drew⟩
        refine wpAnyH_take (i := 0) (v := ?_) rfl (by kernel_rfl) (by kernel_rfl) (by kernel_rfl) (fun _ _ _ h => h) (Or.inl ⟨by rfl, ?_⟩) (by assumption) ?_
        rotate_left
        · intro w9 hSw; (try dsimp only at hSw); go_simp; try with_reducible rfl
        try simp only [List.getElem_toArray, List.getElem_cons_succ, List.getElem_cons_zero, Act.put, List.setIfInBounds_toArray, List.set_cons_zero, List.set_cons_succ]
        refine wpAnyH_take (i := 1) (v := ?_) rfl (by kernel_rfl) (by kernel_rfl) (by kernel_rfl) (fun _ _ _ h => h) (Or.inl ⟨by rfl, ?_⟩) (by assumption) ?_
        rotate_left
        · intro w9 hSw; (try dsimp only at hSw); go_simp; try with_reducible rfl
        try simp only [List.getElem_toArray, List.getElem_cons_succ, List.getElem_cons_zero, Act.put, List.setIfInBounds_toArray, List.set_cons_zero, List.set_cons_succ]
        refine wpAnyH_take (i := 2) (v := ?_) rfl (by kernel_rfl) (by kernel_rfl) (by kernel_rfl) (fun _ _ _ h => h) (Or.inl ⟨by rfl, ?_⟩) (by assumption) ?_
        rotate_left
        · intro w9 hSw; (try dsimp only at hSw); go_simp; try with_reducible rfl
        try simp only [List.getElem_toArray, List.getElem_cons_succ, List.getElem_cons_zero, Act.put, List.setIfInBounds_toArray, List.set_cons_zero, List.set_cons_succ]
        refine wpAnyH_take (i := 3) (v := ?_) rfl (by kernel_rfl) (by kernel_rfl) (by kernel_rfl) (fun _ _ _ h => h) (Or.inl ⟨by rfl, ?_⟩) (by assumption) ?_
        rotate_left
        · intro w9 hSw; (try dsimp only at hSw); go_simp; try with_reducible rfl
        try simp only [List.getElem_toArray, List.getElem_cons_succ, List.getElem_cons_zero, Act.put, List.setIfInBounds_toArray, List.set_cons_zero, List.set_cons_succ]
        refine wpAnyH_take (i := 4) (v := ?_) rfl (by kernel_rfl) (by kernel_rfl) (by kernel_rfl) (fun _ _ _ h => h) (Or.inl ⟨by rfl, ?_⟩) (by assumption) ?_
        rotate_left
        · intro w9 hSw; (try dsimp only at hSw); go_simp; try with_reducible rfl
        try simp only [List.getElem_toArray, List.getElem_cons_succ, List.getElem_cons_zero, Act.put, List.setIfInBounds_toArray, List.set_cons_zero, List.set_cons_succ]
        refine wpAnyH_take (i := 5) (v := ?_) rfl (by kernel_rfl) (by kernel_rfl) (by kernel_rfl) (fun _ _ _ h => h) (Or.inl ⟨by rfl, ?_⟩) (by assumption) ?_
        rotate_left
        · intro w9 hSw; (try dsimp only at hSw); go_simp; try with_reducible rfl
        try simp only [List.getElem_toArray, List.getElem_cons_succ, List.getElem_cons_zero, Act.put, List.setIfInBounds_toArray, List.set_cons_zero, List.set_cons_succ]
        refine wpAnyH_take (i := 6) (v := ?_) rfl (by kernel_rfl) (by kernel_rfl) (by kernel_rfl) (fun _ _ _ h => h) (Or.inl ⟨by rfl, ?_⟩) (by assumption) ?_
        rotate_left
        · intro w9 hSw; (try dsimp only at hSw); go_simp; try with_reducible rfl
        try simp only [List.getElem_toArray, List.getElem_cons_succ, List.getElem_cons_zero, Act.put, List.setIfInBounds_toArray, List.set_cons_zero, List.set_cons_succ]
        refine wpAnyH_ready (rs := [7, 12]) (by kernel_rfl) (by simp) ?_
        refine AllReadyH.cons rfl (fun K hK => ?_) ?_
        · go_simp
          refine Calls.mono (HT.out _ ?_) ?_
          · exact hHeld
          clear hHeld
          rintro e va ⟨p1, q1, rfl, hoN, hbb, hbx⟩
          refine hK.out _ _ ?_ (fun hHeld => ?_)
          · exact hbx
          clear hK K
          try simp only [List.getElem_toArray, List.getElem_cons_succ, List.getElem_cons_zero, Act.put, List.setIfInBounds_toArray, List.set_cons_zero, List.set_cons_succ]
          refine wpAnyH_take (i := 8) (v := ?_) rfl (by kernel_rfl) (by kernel_rfl) (by kernel_rfl) (fun _ _ _ h => h) (Or.inl ⟨by rfl, ?_⟩) (by assumption) ?_
          rotate_left
          · intro w9 hSw; (try dsimp only at hSw); go_simp; try with_reducible rfl
          try simp only [List.getElem_toArray, List.getElem_cons_succ, List.getElem_cons_zero, Act.put, List.setIfInBounds_toArray, List.set_cons_zero, List.set_cons_succ]
          refine wpAnyH_take (i := 9) (v := ?_) rfl (by kernel_rfl) (by kernel_rfl) (by kernel_rfl) (fun _ _ _ h => h) (Or.inl ⟨by rfl, ?_⟩) (by assumption) ?_
          rotate_left
          · intro w9 hSw; (try dsimp only at hSw); go_simp; try with_reducible rfl
          try simp only [List.getElem_toArray, List.getElem_cons_succ, List.getElem_cons_zero, Act.put, List.setIfInBounds_toArray, List.set_cons_zero, List.set_cons_succ]
          refine wpAnyH_take (i := 10) (v := ?_) rfl (by kernel_rfl) (by kernel_rfl) (by kernel_rfl) (fun _ _ _ h => h) (Or.inl ⟨by rfl, ?_⟩) (by assumption) ?_
          rotate_left
          · intro w9 hSw; (try dsimp only at hSw); go_simp; try with_reducible rfl
          try simp only [List.getElem_toArray, List.getElem_cons_succ, List.getElem_cons_zero, Act.put, List.setIfInBounds_toArray, List.set_cons_zero, List.set_cons_succ]
          refine wpAnyH_take (i := 11) (v := ?_) rfl (by kernel_rfl) (by kernel_rfl) (by kernel_rfl) (fun _ _ _ h => h) (Or.inl ⟨by rfl, ?_⟩) (by assumption) ?_
          rotate_left
          · intro w9 hSw; (try dsimp only at hSw); go_simp; try with_reducible rfl
          try simp only [List.getElem_toArray, List.getElem_cons_succ, List.getElem_cons_zero, Act.put, List.setIfInBounds_toArray, List.set_cons_zero, List.set_cons_succ]
          refine wpAnyH_ready (rs := [12]) (by kernel_rfl) (by simp) ?_
          refine AllReadyH.cons rfl (fun K hK => ?_) ?_
          · go_simp
            refine hK.out _ _ ?_ (fun hHeld => ?_)
            · exact ⟨cell_old _ hbx.1, cell_old _ hbx.2.1, cell_old _ hbx.2.2.1, cell_old _ hbx.2.2.2.1, hbx.2.2.2.2.alloc hbx.2.2.2.2.size _⟩
            clear hK K
            try simp only [List.getElem_toArray, List.getElem_cons_succ, List.getElem_cons_zero, Act.put, List.setIfInBounds_toArray, List.set_cons_zero, List.set_cons_succ]
            refine wpAnyH_ready (rs := [13]) (by kernel_rfl) (by simp) ?_
            refine AllReadyH.cons rfl (fun K hK => ?_) ?_
            · go_simp
              refine hK.out _ _ ?_ (fun hHeld => ?_)
              · exact ⟨cell_old _ hbx.1, cell_old _ hbx.2.1, cell_old _ hbx.2.2.1, cell_old _ hbx.2.2.2.1, hbx.2.2.2.2.alloc hbx.2.2.2.2.size _⟩
              clear hK K
              try simp only [List.getElem_toArray, List.getElem_cons_succ, List.getElem_cons_zero, Act.put, List.setIfInBounds_toArray, List.set_cons_zero, List.set_cons_succ]
              refine wpAnyH_take (i := 14) (v := ?_) rfl (by kernel_rfl) (by kernel_rfl) (by kernel_rfl) (fun _ _ _ h => h) (Or.inl ⟨by rfl, ?_⟩) (by assumption) ?_
              rotate_left
              · intro w9 hSw; (try dsimp only at hSw); go_simp; try with_reducible rfl
              try simp only [List.getElem_toArray, List.getElem_cons_succ, List.getElem_cons_zero, Act.put, List.setIfInBounds_toArray, List.set_cons_zero, List.set_cons_succ]
              refine wpAnyH_take (i := 15) (v := ?_) rfl (by kernel_rfl) (by kernel_rfl) (by kernel_rfl) (fun _ _ _ h => h) (Or.inl ⟨by rfl, ?_⟩) (by assumption) ?_
              rotate_left
              · intro w9 hSw; (try dsimp only at hSw); go_simp; try with_reducible rfl
              try simp only [List.getElem_toArray, List.getElem_cons_succ, List.getElem_cons_zero, Act.put, List.setIfInBounds_toArray, List.set_cons_zero, List.set_cons_succ]
              refine wpAnyH_done (by kernel_rfl) ?_ _
              refine NoPanic.normal ?_
              have HN5 := Lib.hid (show (va.alloc (.cells #[.slice p1 (stW ws b r y).length q1, .int .i64 (stV ws b r y)] 46)).cell? ⟨va.heap.size, 0, none⟩ = some (.slice p1 (stW ws b r y).length q1) ∧ (va.alloc (.cells #[.slice p1 (stW ws b r y).length q1, .int .i64 (stV ws b r y)] 46)).cell? ⟨va.heap.size, 1, none⟩ = some (.int .i64 (stV ws b r y)) from ⟨cell_new _ _ _ rfl rfl, cell_new _ _ _ rfl rfl⟩)
              have HB6 := Lib.hid hHeld.2.2.2.2
              have hNB : wr.heap.size ≤ va.heap.size ∧ va.heap.size < (va.alloc (.cells #[.slice p1 (stW ws b r y).length q1, .int .i64 (stV ws b r y)] 46)).heap.size := ⟨by have := hbx.2.2.2.2.size; omega, by first | (simp; done) | (have := hbb.size; simp at this ⊢; omega)⟩
              have HON := Lib.hid (show OwnI wr.heap.size (va.alloc (.cells #[.slice p1 (stW ws b r y).length q1, .int .i64 (stV ws b r y)] 46)).heap.size (va.alloc (.cells #[.slice p1 (stW ws b r y).length q1, .int .i64 (stV ws b r y)] 46)) (.slice p1 (stW ws b r y).length q1) (stW ws b r y) from ((hoN.below (below_alloc va _)).mono (show wr.heap.size ≤ wr.drew.heap.size from Nat.le_refl _) (by simp)))
              clear hHeld hbx hbb HT hoN
              generalize (va.alloc (.cells #[.slice p1 (stW ws b r y).length q1, .int .i64 (stV ws b r y)] 46)) = w5 at *
              generalize va.heap.size = NB at *
              have n0 := HN5.out.1
              have n1 := HN5.out.2
              have hs5 := HB6.out.size
              obtain ⟨u0, u1, u2, u3, u4, u5, u6, u7⟩ := (show w5.cell? ⟨w.heap.size, 0, none⟩ = some (.slice (some ⟨bl, off, none⟩) rows.length c) ∧ w5.cell? ⟨w.heap.size, 1, none⟩ = some (.slice (some ⟨lb, lo, none⟩) zs.length c') ∧ w5.cell? ⟨w.heap.size + 2, 0, none⟩ = some (.slice none 0 0) ∧ w5.cell? ⟨w.heap.size + 2, 1, none⟩ = some (.int .i64 0) ∧ w5.frozen? ⟨w.heap.size + 2, 0, none⟩ = false ∧ w5.frozen? ⟨w.heap.size + 2, 1, none⟩ = false ∧ w5.frozen? ⟨w.heap.size + 1, 0, none⟩ = false ∧ w5.frozen? ⟨w.heap.size + 1, 1, none⟩ = false from ⟨cell_below HB6.out HX.out.1 (by omega), cell_below HB6.out HX.out.2.1 (by omega), cell_below HB6.out HX.out.2.2.1 (by omega), cell_below HB6.out HX.out.2.2.2.1 (by omega), fro_below HB6.out HX.out.2.2.2.2.1 (by omega), fro_below HB6.out HX.out.2.2.2.2.2.1 (by omega), fro_below HB6.out HX.out.2.2.2.2.2.2.1 (by omega), fro_below HB6.out HX.out.2.2.2.2.2.2.2 (by omega)⟩)
              have HX5 := Lib.hid (And.intro u0 (And.intro u1 (And.intro u2 (And.intro u3 (And.intro u4 (And.intro u5 (And.intro u6 u7)))))))
              have HBW := Lib.hid (HBl.out.trans (HB6.out.mono (by have := HBl.out.size; omega)))
              have q0 := cell_below HB6.out y0 (by omega)
              have q1' := cell_below HB6.out y1 (by omega)
              clear u0 u1 u2 u3 u4 u5
              generalize stW ws b r y = zz at *
              generalize stV ws b r y = bb at *
              have HREL2 := Lib.hid (show (((w5.setCell ⟨w.heap.size + 1, 0, none⟩ (.slice p1 zz.length q1)).setCell ⟨w.heap.size + 1, 1, none⟩ (.int .i64 bb)).cell? ⟨w.heap.size + 1, 0, none⟩ = some (.slice p1 zz.length q1) ∧ ((w5.setCell ⟨w.heap.size + 1, 0, none⟩ (.slice p1 zz.length q1)).setCell ⟨w.heap.size + 1, 1, none⟩ (.int .i64 bb)).cell? ⟨w.heap.size + 1, 1, none⟩ = some (.int .i64 bb)) ∧ OwnI (w.heap.size + 3) ((w5.setCell ⟨w.heap.size + 1, 0, none⟩ (.slice p1 zz.length q1)).setCell ⟨w.heap.size + 1, 1, none⟩ (.int .i64 bb)).heap.size ((w5.setCell ⟨w.heap.size + 1, 0, none⟩ (.slice p1 zz.length q1)).setCell ⟨w.heap.size + 1, 1, none⟩ (.int .i64 bb)) (.slice p1 zz.length q1) zz from ⟨⟨(World.cell?_setCell_other _ _ _ _ (by simp)).trans (World.cell?_setCell_same _ _ _ q0), World.cell?_setCell_same _ _ _ ((World.cell?_setCell_other _ _ _ _ (by simp)).trans q1')⟩, by simp only [size_set]; exact ((HON.out.set (by simp; omega) _).set (by simp; omega) _).mono (by omega) (Nat.le_refl _)⟩)
              have HX6 := Lib.hid (show ((w5.setCell ⟨w.heap.size + 1, 0, none⟩ (.slice p1 zz.length q1)).setCell ⟨w.heap.size + 1, 1, none⟩ (.int .i64 bb)).cell? ⟨w.heap.size, 0, none⟩ = some (.slice (some ⟨bl, off, none⟩) rows.length c) ∧ ((w5.setCell ⟨w.heap.size + 1, 0, none⟩ (.slice p1 zz.length q1)).setCell ⟨w.heap.size + 1, 1, none⟩ (.int .i64 bb)).cell? ⟨w.heap.size, 1, none⟩ = some (.slice (some ⟨lb, lo, none⟩) zs.length c') ∧ ((w5.setCell ⟨w.heap.size + 1, 0, none⟩ (.slice p1 zz.length q1)).setCell ⟨w.heap.size + 1, 1, none⟩ (.int .i64 bb)).cell? ⟨w.heap.size + 2, 0, none⟩ = some (.slice none 0 0) ∧ ((w5.setCell ⟨w.heap.size + 1, 0, none⟩ (.slice p1 zz.length q1)).setCell ⟨w.heap.size + 1, 1, none⟩ (.int .i64 bb)).cell? ⟨w.heap.size + 2, 1, none⟩ = some (.int .i64 0) ∧ ((w5.setCell ⟨w.heap.size + 1, 0, none⟩ (.slice p1 zz.length q1)).setCell ⟨w.heap.size + 1, 1, none⟩ (.int .i64 bb)).frozen? ⟨w.heap.size + 2, 0, none⟩ = false ∧ ((w5.setCell ⟨w.heap.size + 1, 0, none⟩ (.slice p1 zz.length q1)).setCell ⟨w.heap.size + 1, 1, none⟩ (.int .i64 bb)).frozen? ⟨w.heap.size + 2, 1, none⟩ = false ∧ ((w5.setCell ⟨w.heap.size + 1, 0, none⟩ (.slice p1 zz.length q1)).setCell ⟨w.heap.size + 1, 1, none⟩ (.int .i64 bb)).frozen? ⟨w.heap.size + 1, 0, none⟩ = false ∧ ((w5.setCell ⟨w.heap.size + 1, 0, none⟩ (.slice p1 zz.length q1)).setCell ⟨w.heap.size + 1, 1, none⟩ (.int .i64 bb)).frozen? ⟨w.heap.size + 1, 1, none⟩ = false from ⟨cell_set (cell_set HX5.out.1 (by first | (simp; done) | (simp; omega) | omega) _) (by first | (simp; done) | (simp; omega) | omega) _, cell_set (cell_set HX5.out.2.1 (by first | (simp; done) | (simp; omega) | omega) _) (by first | (simp; done) | (simp; omega) | omega) _, cell_set (cell_set HX5.out.2.2.1 (by first | (simp; done) | (simp; omega) | omega) _) (by first | (simp; done) | (simp; omega) | omega) _, cell_set (cell_set HX5.out.2.2.2.1 (by first | (simp; done) | (simp; omega) | omega) _) (by first | (simp; done) | (simp; omega) | omega) _, by rw [World.frozen?_setCell, World.frozen?_setCell]; exact HX5.out.2.2.2.2.1, by rw [World.frozen?_setCell, World.frozen?_setCell]; exact HX5.out.2.2.2.2.2.1, by rw [World.frozen?_setCell, World.frozen?_setCell]; exact HX5.out.2.2.2.2.2.2.1, by rw [World.frozen?_setCell, World.frozen?_setCell]; exact HX5.out.2.2.2.2.2.2.2⟩)
              have HBW6 := Lib.hid (show Below w.heap.size w ((w5.setCell ⟨w.heap.size + 1, 0, none⟩ (.slice p1 zz.length q1)).setCell ⟨w.heap.size + 1, 1, none⟩ (.int .i64 bb)) from (HBW.out.setCell (by simp) _).setCell (by simp) _)
              have HS6 := Lib.hid (show w.heap.size + 2 < ((w5.setCell ⟨w.heap.size + 1, 0, none⟩ (.slice p1 zz.length q1)).setCell ⟨w.heap.size + 1, 1, none⟩ (.int .i64 bb)).heap.size from by rw [size_set, size_set]; omega)
              have HSP := Lib.hid (show (inn rows zs st (k + 1)).p = (zz, bb) from HST.out)
              have n2 : ((w5.setCell ⟨w.heap.size + 1, 0, none⟩ (.slice p1 zz.length q1)).setCell ⟨w.heap.size + 1, 1, none⟩ (.int .i64 bb)).cell? ⟨NB, 0, none⟩ = some (.slice p1 zz.length q1) := cell_set (cell_set n0 (by first | (simp; done) | (simp; omega)) _) (by first | (simp; done) | (simp; omega)) _
              have n3 : ((w5.setCell ⟨w.heap.size + 1, 0, none⟩ (.slice p1 zz.length q1)).setCell ⟨w.heap.size + 1, 1, none⟩ (.int .i64 bb)).cell? ⟨NB, 1, none⟩ = some (.int .i64 bb) := cell_set (cell_set n1 (by first | (simp; done) | (simp; omega)) _) (by first | (simp; done) | (simp; omega)) _
              have e5 : IntKind.i64.wrap ((cnt : Int) + 1) = ((cnt + 1 : Nat) : Int) := by rw [IntWalk.i64_in _ (by have := HF.out.few; omega)]; omega
              go_wp2_with fail
              refine (visit _ p1 zz.length q1 bb ((w5.setCell ⟨w.heap.size + 1, 0, none⟩ (.slice p1 zz.length q1)).setCell ⟨w.heap.size + 1, 1, none⟩ (.int .i64 bb))).mono ?_
              rintro e w7 ⟨rfl, hb7⟩
              have HB6 := Lib.hid hb7
              have hs7 : w.heap.size + 2 < ((w5.setCell ⟨w.heap.size + 1, 0, none⟩ (.slice p1 zz.length q1)).setCell ⟨w.heap.size + 1, 1, none⟩ (.int .i64 bb)).heap.size := HS6.out
              have hs8 := hb7.size
              have HREL3 := Lib.hid (show (w7.cell? ⟨w.heap.size + 1, 0, none⟩ = some (.slice p1 zz.length q1) ∧ w7.cell? ⟨w.heap.size + 1, 1, none⟩ = some (.int .i64 bb)) ∧ OwnI (w.heap.size + 3) w7.heap.size w7 (.slice p1 zz.length q1) zz from ⟨⟨cell_below hb7 HREL2.out.1.1 (by omega), cell_below hb7 HREL2.out.1.2 (by omega)⟩, (HREL2.out.2.below hb7).mono (Nat.le_refl _) hb7.size⟩)
              have HX7 := Lib.hid (show w7.cell? ⟨w.heap.size, 0, none⟩ = some (.slice (some ⟨bl, off, none⟩) rows.length c) ∧ w7.cell? ⟨w.heap.size, 1, none⟩ = some (.slice (some ⟨lb, lo, none⟩) zs.length c') ∧ w7.cell? ⟨w.heap.size + 2, 0, none⟩ = some (.slice none 0 0) ∧ w7.cell? ⟨w.heap.size + 2, 1, none⟩ = some (.int .i64 0) ∧ w7.frozen? ⟨w.heap.size + 2, 0, none⟩ = false ∧ w7.frozen? ⟨w.heap.size + 2, 1, none⟩ = false ∧ w7.frozen? ⟨w.heap.size + 1, 0, none⟩ = false ∧ w7.frozen? ⟨w.heap.size + 1, 1, none⟩ = false from ⟨cell_below HB6.out HX6.out.1 (by omega), cell_below HB6.out HX6.out.2.1 (by omega), cell_below HB6.out HX6.out.2.2.1 (by omega), cell_below HB6.out HX6.out.2.2.2.1 (by omega), fro_below HB6.out HX6.out.2.2.2.2.1 (by omega), fro_below HB6.out HX6.out.2.2.2.2.2.1 (by omega), fro_below HB6.out HX6.out.2.2.2.2.2.2.1 (by omega), fro_below HB6.out HX6.out.2.2.2.2.2.2.2 (by omega)⟩)
              have HBW7 := Lib.hid (HBW6.out.trans (hb7.mono (by have := HBW6.out.size; omega)))
              have HS7 := Lib.hid (show w.heap.size + 2 < w7.heap.size by omega)
              clear hb7 n0 n1 n2 n3
              go_wp2_with fail
              go_roundw
              case rel => exact ⟨k + 1, by omega, by first | (rw [HCN.out]; done) | (rw [HCN.out]; rfl) | (rw [HCN.out]; congr 1), by go_num, HOK2, Lib.hid (by rw [HSP.out]; exact ⟨p1, q1, HREL3.out.1, HREL3.out.2.reads, fun _ => HREL3.out.2⟩), HX7, HBW7, HS7⟩
              case measure => simp [intOf]; omega
            exact AllReadyH.nil
          exact AllReadyH.nil
        refine AllReadyH.cons rfl (fun K hK => ?_) ?_
        · go_simp
          refine hK.out _ _ ?_ (fun hHeld => ?_)
          · exact ⟨cell_old _ xl, cell_old _ hlc, cell_old _ y0, cell_old _ y1, ((Below.refl _ _).drew.alloc (Nat.le_refl _) _)⟩
          clear hK K
          try simp only [List.getElem_toArray, List.getElem_cons_succ, List.getElem_cons_zero, Act.put, List.setIfInBounds_toArray, List.set_cons_zero, List.set_cons_succ]
          refine wpAnyH_ready (rs := [7]) (by kernel_rfl) (by simp) ?_
          refine AllReadyH.cons rfl (fun K hK => ?_) ?_
          · go_simp
            refine Calls.mono (HT.out _ ?_) ?_
            · exact hHeld
            clear hHeld
            rintro e va ⟨p1, q1, rfl, hoN, hbb, hbx⟩
            refine hK.out _ _ ?_ (fun hHeld => ?_)
            · exact hbx
            clear hK K
            try simp only [List.getElem_toArray, List.getElem_cons_succ, List.getElem_cons_zero, Act.put, List.setIfInBounds_toArray, List.set_cons_zero, List.set_cons_succ]
            have y8 := cell_below hbb (show (wr.drew.alloc (.cells #[.slice none 0 0, .int .i64 0] 46)).cell? ⟨wr.heap.size, 0, none⟩ = some (.slice none 0 0) from cell_new _ _ _ rfl rfl) (by simp)
            have y9 := cell_below hbb (show (wr.drew.alloc (.cells #[.slice none 0 0, .int .i64 0] 46)).cell? ⟨wr.heap.size, 1, none⟩ = some (.int .i64 0) from cell_new _ _ _ rfl rfl) (by simp)
            have z8 := fro_below hbb (show (wr.drew.alloc (.cells #[.slice none 0 0, .int .i64 0] 46)).frozen? ⟨wr.heap.size, 0, none⟩ = false from fro_new _ _ _ rfl) (by simp)
            have z9 := fro_below hbb (show (wr.drew.alloc (.cells #[.slice none 0 0, .int .i64 0] 46)).frozen? ⟨wr.heap.size, 1, none⟩ = false from fro_new _ _ _ rfl) (by simp)
            refine wpAnyH_take (i := 8) (v := ?_) rfl (by kernel_rfl) (by kernel_rfl) (by kernel_rfl) (fun _ _ _ h => h) (Or.inl ⟨by rfl, ?_⟩) (by assumption) ?_
            rotate_left
            · intro w9 hSw; (try dsimp only at hSw); go_simp; try with_reducible rfl
            try simp only [List.getElem_toArray, List.getElem_cons_succ, List.getElem_cons_zero, Act.put, List.setIfInBounds_toArray, List.set_cons_zero, List.set_cons_succ]
            refine wpAnyH_take (i := 9) (v := ?_) rfl (by kernel_rfl) (by kernel_rfl) (by kernel_rfl) (fun _ _ _ h => h) (Or.inl ⟨by rfl, ?_⟩) (by assumption) ?_
            rotate_left
            · intro w9 hSw; (try dsimp only at hSw); go_simp; try with_reducible rfl
            try simp only [List.getElem_toArray, List.getElem_cons_succ, List.getElem_cons_zero, Act.put, List.setIfInBounds_toArray, List.set_cons_zero, List.set_cons_succ]
            refine wpAnyH_take (i := 10) (v := ?_) rfl (by kernel_rfl) (by kernel_rfl) (by kernel_rfl) (fun _ _ _ h => h) (Or.inl ⟨by rfl, ?_⟩) (by assumption) ?_
            rotate_left
            · intro w9 hSw; (try dsimp only at hSw); go_simp; try with_reducible rfl
            try simp only [List.getElem_toArray, List.getElem_cons_succ, List.getElem_cons_zero, Act.put, List.setIfInBounds_toArray, List.set_cons_zero, List.set_cons_succ]
            refine wpAnyH_take (i := 11) (v := ?_) rfl (by kernel_rfl) (by kernel_rfl) (by kernel_rfl) (fun _ _ _ h => h) (Or.inl ⟨by rfl, ?_⟩) (by assumption) ?_
            rotate_left
            · intro w9 hSw; (try dsimp only at hSw); go_simp; try with_reducible rfl
            try simp only [List.getElem_toArray, List.getElem_cons_succ, List.getElem_cons_zero, Act.put, List.setIfInBounds_toArray, List.set_cons_zero, List.set_cons_succ]
            refine wpAnyH_ready (rs := [13]) (by kernel_rfl) (by simp) ?_
            refine AllReadyH.cons rfl (fun K hK => ?_) ?_
            · go_simp
              refine hK.out _ _ ?_ (fun hHeld => ?_)
              · exact ⟨cell_set (cell_set hbx.1 (by first | (simp; done) | (simp; omega) | omega) _) (by first | (simp; done) | (simp; omega) | omega) _, cell_set (cell_set hbx.2.1 (by first | (simp; done) | (simp; omega) | omega) _) (by first | (simp; done) | (simp; omega) | omega) _, cell_set (cell_set hbx.2.2.1 (by first | (simp; done) | (simp; omega) | omega) _) (by first | (simp; done) | (simp; omega) | omega) _, cell_set (cell_set hbx.2.2.2.1 (by first | (simp; done) | (simp; omega) | omega) _) (by first | (simp; done) | (simp; omega) | omega) _, (hbx.2.2.2.2.setCell (by simp) _).setCell (by simp) _⟩
              clear hK K
              try simp only [List.getElem_toArray, List.getElem_cons_succ, List.getElem_cons_zero, Act.put, List.setIfInBounds_toArray, List.set_cons_zero, List.set_cons_succ]
              refine wpAnyH_take (i := 14) (v := ?_) rfl (by kernel_rfl) (by kernel_rfl) (by kernel_rfl) (fun _ _ _ h => h) (Or.inl ⟨by rfl, ?_⟩) (by assumption) ?_
              rotate_left
              · intro w9 hSw; (try dsimp only at hSw); go_simp; try with_reducible rfl
              try simp only [List.getElem_toArray, List.getElem_cons_succ, List.getElem_cons_zero, Act.put, List.setIfInBounds_toArray, List.set_cons_zero, List.set_cons_succ]
              refine wpAnyH_take (i := 15) (v := ?_) rfl (by kernel_rfl) (by kernel_rfl) (by kernel_rfl) (fun _ _ _ h => h) (Or.inl ⟨by rfl, ?_⟩) (by assumption) ?_
              rotate_left
              · intro w9 hSw; (try dsimp only at hSw); go_simp; try with_reducible rfl
              try simp only [List.getElem_toArray, List.getElem_cons_succ, List.getElem_cons_zero, Act.put, List.setIfInBounds_toArray, List.set_cons_zero, List.set_cons_succ]
              refine wpAnyH_done (by kernel_rfl) ?_ _
              refine NoPanic.normal ?_
              have HN5 := Lib.hid (show ((va.setCell ⟨wr.heap.size, 0, none⟩ (.slice p1 (stW ws b r y).length q1)).setCell ⟨wr.heap.size, 1, none⟩ (.int .i64 (stV ws b r y))).cell? ⟨wr.heap.size, 0, none⟩ = some (.slice p1 (stW ws b r y).length q1) ∧ ((va.setCell ⟨wr.heap.size, 0, none⟩ (.slice p1 (stW ws b r y).length q1)).setCell ⟨wr.heap.size, 1, none⟩ (.int .i64 (stV ws b r y))).cell? ⟨wr.heap.size, 1, none⟩ = some (.int .i64 (stV ws b r y)) from ⟨(World.cell?_setCell_other _ _ _ _ (by simp)).trans (World.cell?_setCell_same _ _ _ y8), World.cell?_setCell_same _ _ _ ((World.cell?_setCell_other _ _ _ _ (by simp)).trans y9)⟩)
              have HB6 := Lib.hid hHeld.2.2.2.2
              have hNB : wr.heap.size ≤ wr.heap.size ∧ wr.heap.size < ((va.setCell ⟨wr.heap.size, 0, none⟩ (.slice p1 (stW ws b r y).length q1)).setCell ⟨wr.heap.size, 1, none⟩ (.int .i64 (stV ws b r y))).heap.size := ⟨by have := hbx.2.2.2.2.size; omega, by first | (simp; done) | (have := hbb.size; simp at this ⊢; omega)⟩
              have HON := Lib.hid (show OwnI wr.heap.size ((va.setCell ⟨wr.heap.size, 0, none⟩ (.slice p1 (stW ws b r y).length q1)).setCell ⟨wr.heap.size, 1, none⟩ (.int .i64 (stV ws b r y))).heap.size ((va.setCell ⟨wr.heap.size, 0, none⟩ (.slice p1 (stW ws b r y).length q1)).setCell ⟨wr.heap.size, 1, none⟩ (.int .i64 (stV ws b r y))) (.slice p1 (stW ws b r y).length q1) (stW ws b r y) from (by simp only [size_set]; exact ((hoN.set (a := ⟨wr.heap.size, 0, none⟩) (by simp) _).set (a := ⟨wr.heap.size, 1, none⟩) (by simp) _).mono (by simp) (Nat.le_refl _)))
              clear hHeld hbx hbb HT hoN y8 y9 z8 z9
              generalize ((va.setCell ⟨wr.heap.size, 0, none⟩ (.slice p1 (stW ws b r y).length q1)).setCell ⟨wr.heap.size, 1, none⟩ (.int .i64 (stV ws b r y))) = w5 at *
              have n0 := HN5.out.1
              have n1 := HN5.out.2
              have hs5 := HB6.out.size
              obtain ⟨u0, u1, u2, u3, u4, u5, u6, u7⟩ := (show w5.cell? ⟨w.heap.size, 0, none⟩ = some (.slice (some ⟨bl, off, none⟩) rows.length c) ∧ w5.cell? ⟨w.heap.size, 1, none⟩ = some (.slice (some ⟨lb, lo, none⟩) zs.length c') ∧ w5.cell? ⟨w.heap.size + 2, 0, none⟩ = some (.slice none 0 0) ∧ w5.cell? ⟨w.heap.size + 2, 1, none⟩ = some (.int .i64 0) ∧ w5.frozen? ⟨w.heap.size + 2, 0, none⟩ = false ∧ w5.frozen? ⟨w.heap.size + 2, 1, none⟩ = false ∧ w5.frozen? ⟨w.heap.size + 1, 0, none⟩ = false ∧ w5.frozen? ⟨w.heap.size + 1, 1, none⟩ = false from ⟨cell_below HB6.out HX.out.1 (by omega), cell_below HB6.out HX.out.2.1 (by omega), cell_below HB6.out HX.out.2.2.1 (by omega), cell_below HB6.out HX.out.2.2.2.1 (by omega), fro_below HB6.out HX.out.2.2.2.2.1 (by omega), fro_below HB6.out HX.out.2.2.2.2.2.1 (by omega), fro_below HB6.out HX.out.2.2.2.2.2.2.1 (by omega), fro_below HB6.out HX.out.2.2.2.2.2.2.2 (by omega)⟩)
              have HX5 := Lib.hid (And.intro u0 (And.intro u1 (And.intro u2 (And.intro u3 (And.intro u4 (And.intro u5 (And.intro u6 u7)))))))
              have HBW := Lib.hid (HBl.out.trans (HB6.out.mono (by have := HBl.out.size; omega)))
              have q0 := cell_below HB6.out y0 (by omega)
              have q1' := cell_below HB6.out y1 (by omega)
              clear u0 u1 u2 u3 u4 u5
              generalize stW ws b r y = zz at *
              generalize stV ws b r y = bb at *
              have HREL2 := Lib.hid (show (((w5.setCell ⟨w.heap.size + 1, 0, none⟩ (.slice p1 zz.length q1)).setCell ⟨w.heap.size + 1, 1, none⟩ (.int .i64 bb)).cell? ⟨w.heap.size + 1, 0, none⟩ = some (.slice p1 zz.length q1) ∧ ((w5.setCell ⟨w.heap.size + 1, 0, none⟩ (.slice p1 zz.length q1)).setCell ⟨w.heap.size + 1, 1, none⟩ (.int .i64 bb)).cell? ⟨w.heap.size + 1, 1, none⟩ = some (.int .i64 bb)) ∧ OwnI (w.heap.size + 3) ((w5.setCell ⟨w.heap.size + 1, 0, none⟩ (.slice p1 zz.length q1)).setCell ⟨w.heap.size + 1, 1, none⟩ (.int .i64 bb)).heap.size ((w5.setCell ⟨w.heap.size + 1, 0, none⟩ (.slice p1 zz.length q1)).setCell ⟨w.heap.size + 1, 1, none⟩ (.int .i64 bb)) (.slice p1 zz.length q1) zz from ⟨⟨(World.cell?_setCell_other _ _ _ _ (by simp)).trans (World.cell?_setCell_same _ _ _ q0), World.cell?_setCell_same _ _ _ ((World.cell?_setCell_other _ _ _ _ (by simp)).trans q1')⟩, by simp only [size_set]; exact ((HON.out.set (by simp; omega) _).set (by simp; omega) _).mono (by omega) (Nat.le_refl _)⟩)
              have HX6 := Lib.hid (show ((w5.setCell ⟨w.heap.size + 1, 0, none⟩ (.slice p1 zz.length q1)).setCell ⟨w.heap.size + 1, 1, none⟩ (.int .i64 bb)).cell? ⟨w.heap.size, 0, none⟩ = some (.slice (some ⟨bl, off, none⟩) rows.length c) ∧ ((w5.setCell ⟨w.heap.size + 1, 0, none⟩ (.slice p1 zz.length q1)).setCell ⟨w.heap.size + 1, 1, none⟩ (.int .i64 bb)).cell? ⟨w.heap.size, 1, none⟩ = some (.slice (some ⟨lb, lo, none⟩) zs.length c') ∧ ((w5.setCell ⟨w.heap.size + 1, 0, none⟩ (.slice p1 zz.length q1)).setCell ⟨w.heap.size + 1, 1, none⟩ (.int .i64 bb)).cell? ⟨w.heap.size + 2, 0, none⟩ = some (.slice none 0 0) ∧ ((w5.setCell ⟨w.heap.size + 1, 0, none⟩ (.slice p1 zz.length q1)).setCell ⟨w.heap.size + 1, 1, none⟩ (.int .i64 bb)).cell? ⟨w.heap.size + 2, 1, none⟩ = some (.int .i64 0) ∧ ((w5.setCell ⟨w.heap.size + 1, 0, none⟩ (.slice p1 zz.length q1)).setCell ⟨w.heap.size + 1, 1, none⟩ (.int .i64 bb)).frozen? ⟨w.heap.size + 2, 0, none⟩ = false ∧ ((w5.setCell ⟨w.heap.size + 1, 0, none⟩ (.slice p1 zz.length q1)).setCell ⟨w.heap.size + 1, 1, none⟩ (.int .i64 bb)).frozen? ⟨w.heap.size + 2, 1, none⟩ = false ∧ ((w5.setCell ⟨w.heap.size + 1, 0, none⟩ (.slice p1 zz.length q1)).setCell ⟨w.heap.size + 1, 1, none⟩ (.int .i64 bb)).frozen? ⟨w.heap.size + 1, 0, none⟩ = false ∧ ((w5.setCell ⟨w.heap.size + 1, 0, none⟩ (.slice p1 zz.length q1)).setCell ⟨w.heap.size + 1, 1, none⟩ (.int .i64 bb)).frozen? ⟨w.heap.size + 1, 1, none⟩ = false from ⟨cell_set (cell_set HX5.out.1 (by first | (simp; done) | (simp; omega) | omega) _) (by first | (simp; done) | (simp; omega) | omega) _, cell_set (cell_set HX5.out.2.1 (by first | (simp; done) | (simp; omega) | omega) _) (by first | (simp; done) | (simp; omega) | omega) _, cell_set (cell_set HX5.out.2.2.1 (by first | (simp; done) | (simp; omega) | omega) _) (by first | (simp; done) | (simp; omega) | omega) _, cell_set (cell_set HX5.out.2.2.2.1 (by first | (simp; done) | (simp; omega) | omega) _) (by first | (simp; done) | (simp; omega) | omega) _, by rw [World.frozen?_setCell, World.frozen?_setCell]; exact HX5.out.2.2.2.2.1, by rw [World.frozen?_setCell, World.frozen?_setCell]; exact HX5.out.2.2.2.2.2.1, by rw [World.frozen?_setCell, World.frozen?_setCell]; exact HX5.out.2.2.2.2.2.2.1, by rw [World.frozen?_setCell, World.frozen?_setCell]; exact HX5.out.2.2.2.2.2.2.2⟩)
              have HBW6 := Lib.hid (show Below w.heap.size w ((w5.setCell ⟨w.heap.size + 1, 0, none⟩ (.slice p1 zz.length q1)).setCell ⟨w.heap.size + 1, 1, none⟩ (.int .i64 bb)) from (HBW.out.setCell (by simp) _).setCell (by simp) _)
              have HS6 := Lib.hid (show w.heap.size + 2 < ((w5.setCell ⟨w.heap.size + 1, 0, none⟩ (.slice p1 zz.length q1)).setCell ⟨w.heap.size + 1, 1, none⟩ (.int .i64 bb)).heap.size from by rw [size_set, size_set]; omega)
              have HSP := Lib.hid (show (inn rows zs st (k + 1)).p = (zz, bb) from HST.out)
              have n2 : ((w5.setCell ⟨w.heap.size + 1, 0, none⟩ (.slice p1 zz.length q1)).setCell ⟨w.heap.size + 1, 1, none⟩ (.int .i64 bb)).cell? ⟨wr.heap.size, 0, none⟩ = some (.slice p1 zz.length q1) := cell_set (cell_set n0 (by first | (simp; done) | (simp; omega)) _) (by first | (simp; done) | (simp; omega)) _
              have n3 : ((w5.setCell ⟨w.heap.size + 1, 0, none⟩ (.slice p1 zz.length q1)).setCell ⟨w.heap.size + 1, 1, none⟩ (.int .i64 bb)).cell? ⟨wr.heap.size, 1, none⟩ = some (.int .i64 bb) := cell_set (cell_set n1 (by first | (simp; done) | (simp; omega)) _) (by first | (simp; done) | (simp; omega)) _
              have e5 : IntKind.i64.wrap ((cnt : Int) + 1) = ((cnt + 1 : Nat) : Int) := by rw [IntWalk.i64_in _ (by have := HF.out.few; omega)]; omega
              go_wp2_with fail
              refine (visit _ p1 zz.length q1 bb ((w5.setCell ⟨w.heap.size + 1, 0, none⟩ (.slice p1 zz.length q1)).setCell ⟨w.heap.size + 1, 1, none⟩ (.int .i64 bb))).mono ?_
              rintro e w7 ⟨rfl, hb7⟩
              have HB6 := Lib.hid hb7
              have hs7 : w.heap.size + 2 < ((w5.setCell ⟨w.heap.size + 1, 0, none⟩ (.slice p1 zz.length q1)).setCell ⟨w.heap.size + 1, 1, none⟩ (.int .i64 bb)).heap.size := HS6.out
              have hs8 := hb7.size
              have HREL3 := Lib.hid (show (w7.cell? ⟨w.heap.size + 1, 0, none⟩ = some (.slice p1 zz.length q1) ∧ w7.cell? ⟨w.heap.size + 1, 1, none⟩ = some (.int .i64 bb)) ∧ OwnI (w.heap.size + 3) w7.heap.size w7 (.slice p1 zz.length q1) zz from ⟨⟨cell_below hb7 HREL2.out.1.1 (by omega), cell_below hb7 HREL2.out.1.2 (by omega)⟩, (HREL2.out.2.below hb7).mono (Nat.le_refl _) hb7.size⟩)
              have HX7 := Lib.hid (show w7.cell? ⟨w.heap.size, 0, none⟩ = some (.slice (some ⟨bl, off, none⟩) rows.length c) ∧ w7.cell? ⟨w.heap.size, 1, none⟩ = some (.slice (some ⟨lb, lo, none⟩) zs.length c') ∧ w7.cell? ⟨w.heap.size + 2, 0, none⟩ = some (.slice none 0 0) ∧ w7.cell? ⟨w.heap.size + 2, 1, none⟩ = some (.int .i64 0) ∧ w7.frozen? ⟨w.heap.size + 2, 0, none⟩ = false ∧ w7.frozen? ⟨w.heap.size + 2, 1, none⟩ = false ∧ w7.frozen? ⟨w.heap.size + 1, 0, none⟩ = false ∧ w7.frozen? ⟨w.heap.size + 1, 1, none⟩ = false from ⟨cell_below HB6.out HX6.out.1 (by omega), cell_below HB6.out HX6.out.2.1 (by omega), cell_below HB6.out HX6.out.2.2.1 (by omega), cell_below HB6.out HX6.out.2.2.2.1 (by omega), fro_below HB6.out HX6.out.2.2.2.2.1 (by omega), fro_below HB6.out HX6.out.2.2.2.2.2.1 (by omega), fro_below HB6.out HX6.out.2.2.2.2.2.2.1 (by omega), fro_below HB6.out HX6.out.2.2.2.2.2.2.2 (by omega)⟩)
              have HBW7 := Lib.hid (HBW6.out.trans (hb7.mono (by have := HBW6.out.size; omega)))
              have HS7 := Lib.hid (show w.heap.size + 2 < w7.heap.size by omega)
              clear hb7 n0 n1 n2 n3
              go_wp2_with fail
              go_roundw
              case rel => exact ⟨k + 1, by omega, by first | (rw [HCN.out]; done) | (rw [HCN.out]; rfl) | (rw [HCN.out]; congr 1), by go_num, HOK2, Lib.hid (by rw [HSP.out]; exact ⟨p1, q1, HREL3.out.1, HREL3.out.2.reads, fun _ => HREL3.out.2⟩), HX7, HBW7, HS7⟩
              case measure => simp [intOf]; omega
            exact AllReadyH.nil
          exact AllReadyH.nil
        exact AllReadyH.nil
      · obtain ⟨bl, off, rp, rq, rfl, hbl, hc, hpq, hrow⟩ := Hhr.out.at hlt
        obtain ⟨lb, lo, rfl, hll, hlc⟩ := Hhz.out.at (k := k) (by have := HF.out.both; omega)
        have hbel := HBl.out
        have HROW := Lib.hid (hrow.below hbel)
        replace hc := cell_below hbel hc hbl
        replace hlc := cell_below hbel hlc hll
        have xl := HX.out.2.1
        obtain ⟨y0, y1⟩ := hpc
        have HPR := Lib.hid hpr
        have HSB := Lib.hid (step_ok HF.out HPK.out HLE.out hlt)
        have HST := Lib.hid (step_p rows zs st k)
        have HL4 := Lib.hid (st_fit HF.out HPK.out HLE.out k hlt)
        have s16 := HF.out.few
        have i1 : (0 : Int) ≤ (k : Int) := by omega
        have i2 : (k : Int) < (rows.length : Int) := by omega
        have i3 : (k : Int) < (zs.length : Int) := by have := HF.out.both; omega
        clear hrow hpq hpr hpo hbel
        have HOK2 := Lib.hid (show ∀ q, q < k + 1 → okP (inn rows zs st (q + 1)) = true from fun q hq => by
          by_cases e : q = k
          · rw [e]; exact hok
          · exact HOK.out q (by omega))
        have HCN := Lib.hid (show cn rows zs st (k + 1) = cn rows zs st k from (inn_same hsm).2)
        have HCH := Lib.hid (show decide (side (inn rows zs st k).p.1 (inn rows zs st k).p.2 (rows.getD k []) ≠ zs.getD k 0) = false from by rw [step_ch, hsm]; rfl)
        have HSB2 := Lib.hid (HSB.out.trans hok)
        clear hok hsm HSB
        generalize inn rows zs st k = sn at *
        generalize cn rows zs st k = cnt at *
        obtain ⟨⟨ws, b⟩, smi, str, spl⟩ := sn
        dsimp only at *
        generalize rows.getD k [] = r at *
        generalize zs.getD k 0 = y at *
        have HT := Lib.hid (show ∀ wa : World, (wa.cell? ⟨w.heap.size, 1, none⟩ = some (.slice (some ⟨lb, lo, none⟩) zs.length c') ∧ wa.cell? ⟨lb, lo + k, none⟩ = some (.int .i64 y) ∧ wa.cell? ⟨w.heap.size + 1, 0, none⟩ = some (.slice pv ws.length qv) ∧ wa.cell? ⟨w.heap.size + 1, 1, none⟩ = some (.int .i64 b) ∧ Below wr.heap.size wr wa) → Calls Try.prog 48 #[.agg #[.slice pv ws.length qv, .int .i64 b], .slice rp r.length rq, .int .i64 y] wa (fun e w' => ∃ (p1 : Option Addr) (q1 : Nat), e = .returned (.tuple #[.agg #[.slice p1 (stW ws b r y).length q1, .int .i64 (stV ws b r y)], .bool false, .bool true]) ∧ OwnI wa.heap.size w'.heap.size w' (.slice p1 (stW ws b r y).length q1) (stW ws b r y) ∧ Below wa.heap.size wa w' ∧ w'.cell? ⟨w.heap.size, 1, none⟩ = some (.slice (some ⟨lb, lo, none⟩) zs.length c') ∧ w'.cell? ⟨lb, lo + k, none⟩ = some (.int .i64 y) ∧ w'.cell? ⟨w.heap.size + 1, 0, none⟩ = some (.slice pv ws.length qv) ∧ w'.cell? ⟨w.heap.size + 1, 1, none⟩ = some (.int .i64 b) ∧ Below wr.heap.size wr w') from fun wa hS => by
          refine (stepperc.impl_yes pv ws qv b rp r rq y wa (HPR.out.below hS.2.2.2.2) (HROW.out.below hS.2.2.2.2) (by have := HL4.out.le; omega) (by have := HL4.out.len; have := HL4.out.le; omega) HSB2.out).mono ?_
          rintro e w' ⟨v', rfl, ho, hb⟩
          obtain ⟨p1, q1, rfl, _, _, _⟩ := ho.slice
          exact ⟨p1, q1, by rw [HCH.out], ho, hb, cell_below hb hS.1 (by have := hS.2.2.2.2.size; omega), cell_below hb hS.2.1 (by have := hS.2.2.2.2.size; omega), cell_below hb hS.2.2.1 (by have := hS.2.2.2.2.size; omega), cell_below hb hS.2.2.2.1 (by have := hS.2.2.2.2.size; omega), hS.2.2.2.2.trans (hb.mono hS.2.2.2.2.size)⟩)
        go_wp2_with fail
        refine wp_region_noPanic ?_
        refine wp_region_held_drew (S := fun w' => w'.cell? ⟨w.heap.size, 1, none⟩ = some (.slice (some ⟨lb, lo, none⟩) zs.length c') ∧ w'.cell? ⟨lb, lo + k, none⟩ = some (.int .i64 y) ∧ w'.cell? ⟨w.heap.size + 1, 0, none⟩ = some (.slice pv ws.length qv) ∧ w'.cell? ⟨w.heap.size + 1, 1, none⟩ = some (.int .i64 b) ∧ Below wr.heap.size wr w') (by kernel_rfl) ?_ (fun hHeld => ?_)
        · exact ⟨xl, hlc, y0, y1, (Below.refl _ _).drew⟩
        refine wpAnyH_take (i := 0) (v := ?_) rfl (by kernel_rfl) (by kernel_rfl) (by kernel_rfl) (fun _ _ _ h => h) (Or.inl ⟨by rfl, ?_⟩) (by assumption) ?_
        rotate_left
        · intro w9 hSw; (try dsimp only at hSw); go_simp; try with_reducible rfl
        try simp only [List.getElem_toArray, List.getElem_cons_succ, List.getElem_cons_zero, Act.put, List.setIfInBounds_toArray, List.set_cons_zero, List.set_cons_succ]
        refine wpAnyH_take (i := 1) (v := ?_) rfl (by kernel_rfl) (by kernel_rfl) (by kernel_rfl) (fun _ _ _ h => h) (Or.inl ⟨by rfl, ?_⟩) (by assumption) ?_
        rotate_left
        · intro w9 hSw; (try dsimp only at hSw); go_simp; try with_reducible rfl
        try simp only [List.getElem_toArray, List.getElem_cons_succ, List.getElem_cons_zero, Act.put, List.setIfInBounds_toArray, List.set_cons_zero, List.set_cons_succ]
        refine wpAnyH_take (i := 2) (v := ?_) rfl (by kernel_rfl) (by kernel_rfl) (by kernel_rfl) (fun _ _ _ h => h) (Or.inl ⟨by rfl, ?_⟩) (by assumption) ?_
        rotate_left
        · intro w9 hSw; (try dsimp only at hSw); go_simp; try with_reducible rfl
        try simp only [List.getElem_toArray, List.getElem_cons_succ, List.getElem_cons_zero, Act.put, List.setIfInBounds_toArray, List.set_cons_zero, List.set_cons_succ]
        refine wpAnyH_take (i := 3) (v := ?_) rfl (by kernel_rfl) (by kernel_rfl) (by kernel_rfl) (fun _ _ _ h => h) (Or.inl ⟨by rfl, ?_⟩) (by assumption) ?_
        rotate_left
        · intro w9 hSw; (try dsimp only at hSw); go_simp; try with_reducible rfl
        try simp only [List.getElem_toArray, List.getElem_cons_succ, List.getElem_cons_zero, Act.put, List.setIfInBounds_toArray, List.set_cons_zero, List.set_cons_succ]
        refine wpAnyH_take (i := 4) (v := ?_) rfl (by kernel_rfl) (by kernel_rfl) (by kernel_rfl) (fun _ _ _ h => h) (Or.inl ⟨by rfl, ?_⟩) (by assumption) ?_
        rotate_left
        · intro w9 hSw; (try dsimp only at hSw); go_simp; try with_reducible rfl
        try simp only [List.getElem_toArray, List.getElem_cons_succ, List.getElem_cons_zero, Act.put, List.setIfInBounds_toArray, List.set_cons_zero, List.set_cons_succ]
        refine wpAnyH_take (i := 5) (v := ?_) rfl (by kernel_rfl) (by kernel_rfl) (by kernel_rfl) (fun _ _ _ h => h) (Or.inl ⟨by rfl, ?_⟩) (by assumption) ?_
        rotate_left
        · intro w9 hSw; (try dsimp only at hSw); go_simp; try with_reducible rfl
        try simp only [List.getElem_toArray, List.getElem_cons_succ, List.getElem_cons_zero, Act.put, List.setIfInBounds_toArray, List.set_cons_zero, List.set_cons_succ]
        refine wpAnyH_take (i := 6) (v := ?_) rfl (by kernel_rfl) (by kernel_rfl) (by kernel_rfl) (fun _ _ _ h => h) (Or.inl ⟨by rfl, ?_⟩) (by assumption) ?_
        rotate_left
        · intro w9 hSw; (try dsimp only at hSw); go_simp; try with_reducible rfl
        try simp only [List.getElem_toArray, List.getElem_cons_succ, List.getElem_cons_zero, Act.put, List.setIfInBounds_toArray, List.set_cons_zero, List.set_cons_succ]
        refine wpAnyH_ready (rs := [7, 12]) (by kernel_rfl) (by simp) ?_
        refine AllReadyH.cons rfl (fun K hK => ?_) ?_
        · go_simp
          refine Calls.mono (HT.out _ ?_) ?_
          · exact hHeld
          clear hHeld
          rintro e va ⟨p1, q1, rfl, hoN, hbb, hbx⟩
          refine hK.out _ _ ?_ (fun hHeld => ?_)
          · exact hbx
          clear hK K
          try simp only [List.getElem_toArray, List.getElem_cons_succ, List.getElem_cons_zero, Act.put, List.setIfInBounds_toArray, List.set_cons_zero, List.set_cons_succ]
          refine wpAnyH_take (i := 8) (v := ?_) rfl (by kernel_rfl) (by kernel_rfl) (by kernel_rfl) (fun _ _ _ h => h) (Or.inl ⟨by rfl, ?_⟩) (by assumption) ?_
          rotate_left
          · intro w9 hSw; (try dsimp only at hSw); go_simp; try with_reducible rfl
          try simp only [List.getElem_toArray, List.getElem_cons_succ, List.getElem_cons_zero, Act.put, List.setIfInBounds_toArray, List.set_cons_zero, List.set_cons_succ]
          refine wpAnyH_take (i := 9) (v := ?_) rfl (by kernel_rfl) (by kernel_rfl) (by kernel_rfl) (fun _ _ _ h => h) (Or.inl ⟨by rfl, ?_⟩) (by assumption) ?_
          rotate_left
          · intro w9 hSw; (try dsimp only at hSw); go_simp; try with_reducible rfl
          try simp only [List.getElem_toArray, List.getElem_cons_succ, List.getElem_cons_zero, Act.put, List.setIfInBounds_toArray, List.set_cons_zero, List.set_cons_succ]
          refine wpAnyH_take (i := 10) (v := ?_) rfl (by kernel_rfl) (by kernel_rfl) (by kernel_rfl) (fun _ _ _ h => h) (Or.inl ⟨by rfl, ?_⟩) (by assumption) ?_
          rotate_left
          · intro w9 hSw; (try dsimp only at hSw); go_simp; try with_reducible rfl
          try simp only [List.getElem_toArray, List.getElem_cons_succ, List.getElem_cons_zero, Act.put, List.setIfInBounds_toArray, List.set_cons_zero, List.set_cons_succ]
          refine wpAnyH_take (i := 11) (v := ?_) rfl (by kernel_rfl) (by kernel_rfl) (by kernel_rfl) (fun _ _ _ h => h) (Or.inl ⟨by rfl, ?_⟩) (by assumption) ?_
          rotate_left
          · intro w9 hSw; (try dsimp only at hSw); go_simp; try with_reducible rfl
          try simp only [List.getElem_toArray, List.getElem_cons_succ, List.getElem_cons_zero, Act.put, List.setIfInBounds_toArray, List.set_cons_zero, List.set_cons_succ]
          refine wpAnyH_ready (rs := [12]) (by kernel_rfl) (by simp) ?_
          refine AllReadyH.cons rfl (fun K hK => ?_) ?_
          · go_simp
            refine hK.out _ _ ?_ (fun hHeld => ?_)
            · exact ⟨cell_old _ hbx.1, cell_old _ hbx.2.1, cell_old _ hbx.2.2.1, cell_old _ hbx.2.2.2.1, hbx.2.2.2.2.alloc hbx.2.2.2.2.size _⟩
            clear hK K
            try simp only [List.getElem_toArray, List.getElem_cons_succ, List.getElem_cons_zero, Act.put, List.setIfInBounds_toArray, List.set_cons_zero, List.set_cons_succ]
            refine wpAnyH_ready (rs := [13]) (by kernel_rfl) (by simp) ?_
            refine AllReadyH.cons rfl (fun K hK => ?_) ?_
            · go_simp
              refine hK.out _ _ ?_ (fun hHeld => ?_)
              · exact ⟨cell_old _ hbx.1, cell_old _ hbx.2.1, cell_old _ hbx.2.2.1, cell_old _ hbx.2.2.2.1, hbx.2.2.2.2.alloc hbx.2.2.2.2.size _⟩
              clear hK K
              try simp only [List.getElem_toArray, List.getElem_cons_succ, List.getElem_cons_zero, Act.put, List.setIfInBounds_toArray, List.set_cons_zero, List.set_cons_succ]
              refine wpAnyH_take (i := 14) (v := ?_) rfl (by kernel_rfl) (by kernel_rfl) (by kernel_rfl) (fun _ _ _ h => h) (Or.inl ⟨by rfl, ?_⟩) (by assumption) ?_
              rotate_left
              · intro w9 hSw; (try dsimp only at hSw); go_simp; try with_reducible rfl
              try simp only [List.getElem_toArray, List.getElem_cons_succ, List.getElem_cons_zero, Act.put, List.setIfInBounds_toArray, List.set_cons_zero, List.set_cons_succ]
              refine wpAnyH_take (i := 15) (v := ?_) rfl (by kernel_rfl) (by kernel_rfl) (by kernel_rfl) (fun _ _ _ h => h) (Or.inl ⟨by rfl, ?_⟩) (by assumption) ?_
              rotate_left
              · intro w9 hSw; (try dsimp only at hSw); go_simp; try with_reducible rfl
              try simp only [List.getElem_toArray, List.getElem_cons_succ, List.getElem_cons_zero, Act.put, List.setIfInBounds_toArray, List.set_cons_zero, List.set_cons_succ]
              refine wpAnyH_done (by kernel_rfl) ?_ _
              refine NoPanic.normal ?_
              have HN5 := Lib.hid (show (va.alloc (.cells #[.slice p1 (stW ws b r y).length q1, .int .i64 (stV ws b r y)] 46)).cell? ⟨va.heap.size, 0, none⟩ = some (.slice p1 (stW ws b r y).length q1) ∧ (va.alloc (.cells #[.slice p1 (stW ws b r y).length q1, .int .i64 (stV ws b r y)] 46)).cell? ⟨va.heap.size, 1, none⟩ = some (.int .i64 (stV ws b r y)) from ⟨cell_new _ _ _ rfl rfl, cell_new _ _ _ rfl rfl⟩)
              have HB6 := Lib.hid hHeld.2.2.2.2
              have hNB : wr.heap.size ≤ va.heap.size ∧ va.heap.size < (va.alloc (.cells #[.slice p1 (stW ws b r y).length q1, .int .i64 (stV ws b r y)] 46)).heap.size := ⟨by have := hbx.2.2.2.2.size; omega, by first | (simp; done) | (have := hbb.size; simp at this ⊢; omega)⟩
              have HON := Lib.hid (show OwnI wr.heap.size (va.alloc (.cells #[.slice p1 (stW ws b r y).length q1, .int .i64 (stV ws b r y)] 46)).heap.size (va.alloc (.cells #[.slice p1 (stW ws b r y).length q1, .int .i64 (stV ws b r y)] 46)) (.slice p1 (stW ws b r y).length q1) (stW ws b r y) from ((hoN.below (below_alloc va _)).mono (show wr.heap.size ≤ wr.drew.heap.size from Nat.le_refl _) (by simp)))
              clear hHeld hbx hbb HT hoN
              generalize (va.alloc (.cells #[.slice p1 (stW ws b r y).length q1, .int .i64 (stV ws b r y)] 46)) = w5 at *
              generalize va.heap.size = NB at *
              have n0 := HN5.out.1
              have n1 := HN5.out.2
              have hs5 := HB6.out.size
              obtain ⟨u0, u1, u2, u3, u4, u5, u6, u7⟩ := (show w5.cell? ⟨w.heap.size, 0, none⟩ = some (.slice (some ⟨bl, off, none⟩) rows.length c) ∧ w5.cell? ⟨w.heap.size, 1, none⟩ = some (.slice (some ⟨lb, lo, none⟩) zs.length c') ∧ w5.cell? ⟨w.heap.size + 2, 0, none⟩ = some (.slice none 0 0) ∧ w5.cell? ⟨w.heap.size + 2, 1, none⟩ = some (.int .i64 0) ∧ w5.frozen? ⟨w.heap.size + 2, 0, none⟩ = false ∧ w5.frozen? ⟨w.heap.size + 2, 1, none⟩ = false ∧ w5.frozen? ⟨w.heap.size + 1, 0, none⟩ = false ∧ w5.frozen? ⟨w.heap.size + 1, 1, none⟩ = false from ⟨cell_below HB6.out HX.out.1 (by omega), cell_below HB6.out HX.out.2.1 (by omega), cell_below HB6.out HX.out.2.2.1 (by omega), cell_below HB6.out HX.out.2.2.2.1 (by omega), fro_below HB6.out HX.out.2.2.2.2.1 (by omega), fro_below HB6.out HX.out.2.2.2.2.2.1 (by omega), fro_below HB6.out HX.out.2.2.2.2.2.2.1 (by omega), fro_below HB6.out HX.out.2.2.2.2.2.2.2 (by omega)⟩)
              have HX5 := Lib.hid (And.intro u0 (And.intro u1 (And.intro u2 (And.intro u3 (And.intro u4 (And.intro u5 (And.intro u6 u7)))))))
              have HBW := Lib.hid (HBl.out.trans (HB6.out.mono (by have := HBl.out.size; omega)))
              have q0 := cell_below HB6.out y0 (by omega)
              have q1' := cell_below HB6.out y1 (by omega)
              clear u0 u1 u2 u3 u4 u5
              generalize stW ws b r y = zz at *
              generalize stV ws b r y = bb at *
              have HREL2 := Lib.hid (show (((w5.setCell ⟨w.heap.size + 1, 0, none⟩ (.slice p1 zz.length q1)).setCell ⟨w.heap.size + 1, 1, none⟩ (.int .i64 bb)).cell? ⟨w.heap.size + 1, 0, none⟩ = some (.slice p1 zz.length q1) ∧ ((w5.setCell ⟨w.heap.size + 1, 0, none⟩ (.slice p1 zz.length q1)).setCell ⟨w.heap.size + 1, 1, none⟩ (.int .i64 bb)).cell? ⟨w.heap.size + 1, 1, none⟩ = some (.int .i64 bb)) ∧ OwnI (w.heap.size + 3) ((w5.setCell ⟨w.heap.size + 1, 0, none⟩ (.slice p1 zz.length q1)).setCell ⟨w.heap.size + 1, 1, none⟩ (.int .i64 bb)).heap.size ((w5.setCell ⟨w.heap.size + 1, 0, none⟩ (.slice p1 zz.length q1)).setCell ⟨w.heap.size + 1, 1, none⟩ (.int .i64 bb)) (.slice p1 zz.length q1) zz from ⟨⟨(World.cell?_setCell_other _ _ _ _ (by simp)).trans (World.cell?_setCell_same _ _ _ q0), World.cell?_setCell_same _ _ _ ((World.cell?_setCell_other _ _ _ _ (by simp)).trans q1')⟩, by simp only [size_set]; exact ((HON.out.set (by simp; omega) _).set (by simp; omega) _).mono (by omega) (Nat.le_refl _)⟩)
              have HX6 := Lib.hid (show ((w5.setCell ⟨w.heap.size + 1, 0, none⟩ (.slice p1 zz.length q1)).setCell ⟨w.heap.size + 1, 1, none⟩ (.int .i64 bb)).cell? ⟨w.heap.size, 0, none⟩ = some (.slice (some ⟨bl, off, none⟩) rows.length c) ∧ ((w5.setCell ⟨w.heap.size + 1, 0, none⟩ (.slice p1 zz.length q1)).setCell ⟨w.heap.size + 1, 1, none⟩ (.int .i64 bb)).cell? ⟨w.heap.size, 1, none⟩ = some (.slice (some ⟨lb, lo, none⟩) zs.length c') ∧ ((w5.setCell ⟨w.heap.size + 1, 0, none⟩ (.slice p1 zz.length q1)).setCell ⟨w.heap.size + 1, 1, none⟩ (.int .i64 bb)).cell? ⟨w.heap.size + 2, 0, none⟩ = some (.slice none 0 0) ∧ ((w5.setCell ⟨w.heap.size + 1, 0, none⟩ (.slice p1 zz.length q1)).setCell ⟨w.heap.size + 1, 1, none⟩ (.int .i64 bb)).cell? ⟨w.heap.size + 2, 1, none⟩ = some (.int .i64 0) ∧ ((w5.setCell ⟨w.heap.size + 1, 0, none⟩ (.slice p1 zz.length q1)).setCell ⟨w.heap.size + 1, 1, none⟩ (.int .i64 bb)).frozen? ⟨w.heap.size + 2, 0, none⟩ = false ∧ ((w5.setCell ⟨w.heap.size + 1, 0, none⟩ (.slice p1 zz.length q1)).setCell ⟨w.heap.size + 1, 1, none⟩ (.int .i64 bb)).frozen? ⟨w.heap.size + 2, 1, none⟩ = false ∧ ((w5.setCell ⟨w.heap.size + 1, 0, none⟩ (.slice p1 zz.length q1)).setCell ⟨w.heap.size + 1, 1, none⟩ (.int .i64 bb)).frozen? ⟨w.heap.size + 1, 0, none⟩ = false ∧ ((w5.setCell ⟨w.heap.size + 1, 0, none⟩ (.slice p1 zz.length q1)).setCell ⟨w.heap.size + 1, 1, none⟩ (.int .i64 bb)).frozen? ⟨w.heap.size + 1, 1, none⟩ = false from ⟨cell_set (cell_set HX5.out.1 (by first | (simp; done) | (simp; omega) | omega) _) (by first | (simp; done) | (simp; omega) | omega) _, cell_set (cell_set HX5.out.2.1 (by first | (simp; done) | (simp; omega) | omega) _) (by first | (simp; done) | (simp; omega) | omega) _, cell_set (cell_set HX5.out.2.2.1 (by first | (simp; done) | (simp; omega) | omega) _) (by first | (simp; done) | (simp; omega) | omega) _, cell_set (cell_set HX5.out.2.2.2.1 (by first | (simp; done) | (simp; omega) | omega) _) (by first | (simp; done) | (simp; omega) | omega) _, by rw [World.frozen?_setCell, World.frozen?_setCell]; exact HX5.out.2.2.2.2.1, by rw [World.frozen?_setCell, World.frozen?_setCell]; exact HX5.out.2.2.2.2.2.1, by rw [World.frozen?_setCell, World.frozen?_setCell]; exact HX5.out.2.2.2.2.2.2.1, by rw [World.frozen?_setCell, World.frozen?_setCell]; exact HX5.out.2.2.2.2.2.2.2⟩)
              have HBW6 := Lib.hid (show Below w.heap.size w ((w5.setCell ⟨w.heap.size + 1, 0, none⟩ (.slice p1 zz.length q1)).setCell ⟨w.heap.size + 1, 1, none⟩ (.int .i64 bb)) from (HBW.out.setCell (by simp) _).setCell (by simp) _)
              have HS6 := Lib.hid (show w.heap.size + 2 < ((w5.setCell ⟨w.heap.size + 1, 0, none⟩ (.slice p1 zz.length q1)).setCell ⟨w.heap.size + 1, 1, none⟩ (.int .i64 bb)).heap.size from by rw [size_set, size_set]; omega)
              have HSP := Lib.hid (show (inn rows zs st (k + 1)).p = (zz, bb) from HST.out)
              go_wp2_with fail
              go_roundw
              case rel => exact ⟨k + 1, by omega, by first | (rw [HCN.out]; done) | (rw [HCN.out]; rfl) | (rw [HCN.out]; congr 1), by go_num, HOK2, Lib.hid (by rw [HSP.out]; exact ⟨p1, q1, HREL2.out.1, HREL2.out.2.reads, fun _ => HREL2.out.2⟩), HX6, HBW6, HS6⟩
              case measure => simp [intOf]; omega
            exact AllReadyH.nil
          exact AllReadyH.nil
        refine AllReadyH.cons rfl (fun K hK => ?_) ?_
        · go_simp
          refine hK.out _ _ ?_ (fun hHeld => ?_)
          · exact ⟨cell_old _ xl, cell_old _ hlc, cell_old _ y0, cell_old _ y1, ((Below.refl _ _).drew.alloc (Nat.le_refl _) _)⟩
          clear hK K
          try simp only [List.getElem_toArray, List.getElem_cons_succ, List.getElem_cons_zero, Act.put, List.setIfInBounds_toArray, List.set_cons_zero, List.set_cons_succ]
          refine wpAnyH_ready (rs := [7]) (by kernel_rfl) (by simp) ?_
          refine AllReadyH.cons rfl (fun K hK => ?_) ?_
          · go_simp
            refine Calls.mono (HT.out _ ?_) ?_
            · exact hHeld
            clear hHeld
            rintro e va ⟨p1, q1, rfl, hoN, hbb, hbx⟩
            refine hK.out _ _ ?_ (fun hHeld => ?_)
            · exact hbx
            clear hK K
            try simp only [List.getElem_toArray, List.getElem_cons_succ, List.getElem_cons_zero, Act.put, List.setIfInBounds_toArray, List.set_cons_zero, List.set_cons_succ]
            have y8 := cell_below hbb (show (wr.drew.alloc (.cells #[.slice none 0 0, .int .i64 0] 46)).cell? ⟨wr.heap.size, 0, none⟩ = some (.slice none 0 0) from cell_new _ _ _ rfl rfl) (by simp)
            have y9 := cell_below hbb (show (wr.drew.alloc (.cells #[.slice none 0 0, .int .i64 0] 46)).cell? ⟨wr.heap.size, 1, none⟩ = some (.int .i64 0) from cell_new _ _ _ rfl rfl) (by simp)
            have z8 := fro_below hbb (show (wr.drew.alloc (.cells #[.slice none 0 0, .int .i64 0] 46)).frozen? ⟨wr.heap.size, 0, none⟩ = false from fro_new _ _ _ rfl) (by simp)
            have z9 := fro_below hbb (show (wr.drew.alloc (.cells #[.slice none 0 0, .int .i64 0] 46)).frozen? ⟨wr.heap.size, 1, none⟩ = false from fro_new _ _ _ rfl) (by simp)
            refine wpAnyH_take (i := 8) (v := ?_) rfl (by kernel_rfl) (by kernel_rfl) (by kernel_rfl) (fun _ _ _ h => h) (Or.inl ⟨by rfl, ?_⟩) (by assumption) ?_
            rotate_left
            · intro w9 hSw; (try dsimp only at hSw); go_simp; try with_reducible rfl
            try simp only [List.getElem_toArray, List.getElem_cons_succ, List.getElem_cons_zero, Act.put, List.setIfInBounds_toArray, List.set_cons_zero, List.set_cons_succ]
            refine wpAnyH_take (i := 9) (v := ?_) rfl (by kernel_rfl) (by kernel_rfl) (by kernel_rfl) (fun _ _ _ h => h) (Or.inl ⟨by rfl, ?_⟩) (by assumption) ?_
            rotate_left
            · intro w9 hSw; (try dsimp only at hSw); go_simp; try with_reducible rfl
            try simp only [List.getElem_toArray, List.getElem_cons_succ, List.getElem_cons_zero, Act.put, List.setIfInBounds_toArray, List.set_cons_zero, List.set_cons_succ]
            refine wpAnyH_take (i := 10) (v := ?_) rfl (by kernel_rfl) (by kernel_rfl) (by kernel_rfl) (fun _ _ _ h => h) (Or.inl ⟨by rfl, ?_⟩) (by assumption) ?_
            rotate_left
            · intro w9 hSw; (try dsimp only at hSw); go_simp; try with_reducible rfl
            try simp only [List.getElem_toArray, List.getElem_cons_succ, List.getElem_cons_zero, Act.put, List.setIfInBounds_toArray, List.set_cons_zero, List.set_cons_succ]
            refine wpAnyH_take (i := 11) (v := ?_) rfl (by kernel_rfl) (by kernel_rfl) (by kernel_rfl) (fun _ _ _ h => h) (Or.inl ⟨by rfl, ?_⟩) (by assumption) ?_
            rotate_left
            · intro w9 hSw; (try dsimp only at hSw); go_simp; try with_reducible rfl
            try simp only [List.getElem_toArray, List.getElem_cons_succ, List.getElem_cons_zero, Act.put, List.setIfInBounds_toArray, List.set_cons_zero, List.set_cons_succ]
            refine wpAnyH_ready (rs := [13]) (by kernel_rfl) (by simp) ?_
            refine AllReadyH.cons rfl (fun K hK => ?_) ?_
            · go_simp
              refine hK.out _ _ ?_ (fun hHeld => ?_)
              · exact ⟨cell_set (cell_set hbx.1 (by first | (simp; done) | (simp; omega) | omega) _) (by first | (simp; done) | (simp; omega) | omega) _, cell_set (cell_set hbx.2.1 (by first | (simp; done) | (simp; omega) | omega) _) (by first | (simp; done) | (simp; omega) | omega) _, cell_set (cell_set hbx.2.2.1 (by first | (simp; done) | (simp; omega) | omega) _) (by first | (simp; done) | (simp; omega) | omega) _, cell_set (cell_set hbx.2.2.2.1 (by first | (simp; done) | (simp; omega) | omega) _) (by first | (simp; done) | (simp; omega) | omega) _, (hbx.2.2.2.2.setCell (by simp) _).setCell (by simp) _⟩
              clear hK K
              try simp only [List.getElem_toArray, List.getElem_cons_succ, List.getElem_cons_zero, Act.put, List.setIfInBounds_toArray, List.set_cons_zero, List.set_cons_succ]
              refine wpAnyH_take (i := 14) (v := ?_) rfl (by kernel_rfl) (by kernel_rfl) (by kernel_rfl) (fun _ _ _ h => h) (Or.inl ⟨by rfl, ?_⟩) (by assumption) ?_
              rotate_left
              · intro w9 hSw; (try dsimp only at hSw); go_simp; try with_reducible rfl
              try simp only [List.getElem_toArray, List.getElem_cons_succ, List.getElem_cons_zero, Act.put, List.setIfInBounds_toArray, List.set_cons_zero, List.set_cons_succ]
              refine wpAnyH_take (i := 15) (v := ?_) rfl (by kernel_rfl) (by kernel_rfl) (by kernel_rfl) (fun _ _ _ h => h) (Or.inl ⟨by rfl, ?_⟩) (by assumption) ?_
              rotate_left
              · intro w9 hSw; (try dsimp only at hSw); go_simp; try with_reducible rfl
              try simp only [List.getElem_toArray, List.getElem_cons_succ, List.getElem_cons_zero, Act.put, List.setIfInBounds_toArray, List.set_cons_zero, List.set_cons_succ]
              refine wpAnyH_done (by kernel_rfl) ?_ _
              refine NoPanic.normal ?_
              have HN5 := Lib.hid (show ((va.setCell ⟨wr.heap.size, 0, none⟩ (.slice p1 (stW ws b r y).length q1)).setCell ⟨wr.heap.size, 1, none⟩ (.int .i64 (stV ws b r y))).cell? ⟨wr.heap.size, 0, none⟩ = some (.slice p1 (stW ws b r y).length q1) ∧ ((va.setCell ⟨wr.heap.size, 0, none⟩ (.slice p1 (stW ws b r y).length q1)).setCell ⟨wr.heap.size, 1, none⟩ (.int .i64 (stV ws b r y))).cell? ⟨wr.heap.size, 1, none⟩ = some (.int .i64 (stV ws b r y)) from ⟨(World.cell?_setCell_other _ _ _ _ (by simp)).trans (World.cell?_setCell_same _ _ _ y8), World.cell?_setCell_same _ _ _ ((World.cell?_setCell_other _ _ _ _ (by simp)).trans y9)⟩)
              have HB6 := Lib.hid hHeld.2.2.2.2
              have hNB : wr.heap.size ≤ wr.heap.size ∧ wr.heap.size < ((va.setCell ⟨wr.heap.size, 0, none⟩ (.slice p1 (stW ws b r y).length q1)).setCell ⟨wr.heap.size, 1, none⟩ (.int .i64 (stV ws b r y))).heap.size := ⟨by have := hbx.2.2.2.2.size; omega, by first | (simp; done) | (have := hbb.size; simp at this ⊢; omega)⟩
              have HON := Lib.hid (show OwnI wr.heap.size ((va.setCell ⟨wr.heap.size, 0, none⟩ (.slice p1 (stW ws b r y).length q1)).setCell ⟨wr.heap.size, 1, none⟩ (.int .i64 (stV ws b r y))).heap.size ((va.setCell ⟨wr.heap.size, 0, none⟩ (.slice p1 (stW ws b r y).length q1)).setCell ⟨wr.heap.size, 1, none⟩ (.int .i64 (stV ws b r y))) (.slice p1 (stW ws b r y).length q1) (stW ws b r y) from (by simp only [size_set]; exact ((hoN.set (a := ⟨wr.heap.size, 0, none⟩) (by simp) _).set (a := ⟨wr.heap.size, 1, none⟩) (by simp) _).mono (by simp) (Nat.le_refl _)))
              clear hHeld hbx hbb HT hoN y8 y9 z8 z9
              generalize ((va.setCell ⟨wr.heap.size, 0, none⟩ (.slice p1 (stW ws b r y).length q1)).setCell ⟨wr.heap.size, 1, none⟩ (.int .i64 (stV ws b r y))) = w5 at *
              have n0 := HN5.out.1
              have n1 := HN5.out.2
              have hs5 := HB6.out.size
              obtain ⟨u0, u1, u2, u3, u4, u5, u6, u7⟩ := (show w5.cell? ⟨w.heap.size, 0, none⟩ = some (.slice (some ⟨bl, off, none⟩) rows.length c) ∧ w5.cell? ⟨w.heap.size, 1, none⟩ = some (.slice (some ⟨lb, lo, none⟩) zs.length c') ∧ w5.cell? ⟨w.heap.size + 2, 0, none⟩ = some (.slice none 0 0) ∧ w5.cell? ⟨w.heap.size + 2, 1, none⟩ = some (.int .i64 0) ∧ w5.frozen? ⟨w.heap.size + 2, 0, none⟩ = false ∧ w5.frozen? ⟨w.heap.size + 2, 1, none⟩ = false ∧ w5.frozen? ⟨w.heap.size + 1, 0, none⟩ = false ∧ w5.frozen? ⟨w.heap.size + 1, 1, none⟩ = false from ⟨cell_below HB6.out HX.out.1 (by omega), cell_below HB6.out HX.out.2.1 (by omega), cell_below HB6.out HX.out.2.2.1 (by omega), cell_below HB6.out HX.out.2.2.2.1 (by omega), fro_below HB6.out HX.out.2.2.2.2.1 (by omega), fro_below HB6.out HX.out.2.2.2.2.2.1 (by omega), fro_below HB6.out HX.out.2.2.2.2.2.2.1 (by omega), fro_below HB6.out HX.out.2.2.2.2.2.2.2 (by omega)⟩)
              have HX5 := Lib.hid (And.intro u0 (And.intro u1 (And.intro u2 (And.intro u3 (And.intro u4 (And.intro u5 (And.intro u6 u7)))))))
              have HBW := Lib.hid (HBl.out.trans (HB6.out.mono (by have := HBl.out.size; omega)))
              have q0 := cell_below HB6.out y0 (by omega)
              have q1' := cell_below HB6.out y1 (by omega)
              clear u0 u1 u2 u3 u4 u5
              generalize stW ws b r y = zz at *
              generalize stV ws b r y = bb at *
              have HREL2 := Lib.hid (show (((w5.setCell ⟨w.heap.size + 1, 0, none⟩ (.slice p1 zz.length q1)).setCell ⟨w.heap.size + 1, 1, none⟩ (.int .i64 bb)).cell? ⟨w.heap.size + 1, 0, none⟩ = some (.slice p1 zz.length q1) ∧ ((w5.setCell ⟨w.heap.size + 1, 0, none⟩ (.slice p1 zz.length q1)).setCell ⟨w.heap.size + 1, 1, none⟩ (.int .i64 bb)).cell? ⟨w.heap.size + 1, 1, none⟩ = some (.int .i64 bb)) ∧ OwnI (w.heap.size + 3) ((w5.setCell ⟨w.heap.size + 1, 0, none⟩ (.slice p1 zz.length q1)).setCell ⟨w.heap.size + 1, 1, none⟩ (.int .i64 bb)).heap.size ((w5.setCell ⟨w.heap.size + 1, 0, none⟩ (.slice p1 zz.length q1)).setCell ⟨w.heap.size + 1, 1, none⟩ (.int .i64 bb)) (.slice p1 zz.length q1) zz from ⟨⟨(World.cell?_setCell_other _ _ _ _ (by simp)).trans (World.cell?_setCell_same _ _ _ q0), World.cell?_setCell_same _ _ _ ((World.cell?_setCell_other _ _ _ _ (by simp)).trans q1')⟩, by simp only [size_set]; exact ((HON.out.set (by simp; omega) _).set (by simp; omega) _).mono (by omega) (Nat.le_refl _)⟩)
              have HX6 := Lib.hid (show ((w5.setCell ⟨w.heap.size + 1, 0, none⟩ (.slice p1 zz.length q1)).setCell ⟨w.heap.size + 1, 1, none⟩ (.int .i64 bb)).cell? ⟨w.heap.size, 0, none⟩ = some (.slice (some ⟨bl, off, none⟩) rows.length c) ∧ ((w5.setCell ⟨w.heap.size + 1, 0, none⟩ (.slice p1 zz.length q1)).setCell ⟨w.heap.size + 1, 1, none⟩ (.int .i64 bb)).cell? ⟨w.heap.size, 1, none⟩ = some (.slice (some ⟨lb, lo, none⟩) zs.length c') ∧ ((w5.setCell ⟨w.heap.size + 1, 0, none⟩ (.slice p1 zz.length q1)).setCell ⟨w.heap.size + 1, 1, none⟩ (.int .i64 bb)).cell? ⟨w.heap.size + 2, 0, none⟩ = some (.slice none 0 0) ∧ ((w5.setCell ⟨w.heap.size + 1, 0, none⟩ (.slice p1 zz.length q1)).setCell ⟨w.heap.size + 1, 1, none⟩ (.int .i64 bb)).cell? ⟨w.heap.size + 2, 1, none⟩ = some (.int .i64 0) ∧ ((w5.setCell ⟨w.heap.size + 1, 0, none⟩ (.slice p1 zz.length q1)).setCell ⟨w.heap.size + 1, 1, none⟩ (.int .i64 bb)).frozen? ⟨w.heap.size + 2, 0, none⟩ = false ∧ ((w5.setCell ⟨w.heap.size + 1, 0, none⟩ (.slice p1 zz.length q1)).setCell ⟨w.heap.size + 1, 1, none⟩ (.int .i64 bb)).frozen? ⟨w.heap.size + 2, 1, none⟩ = false ∧ ((w5.setCell ⟨w.heap.size + 1, 0, none⟩ (.slice p1 zz.length q1)).setCell ⟨w.heap.size + 1, 1, none⟩ (.int .i64 bb)).frozen? ⟨w.heap.size + 1, 0, none⟩ = false ∧ ((w5.setCell ⟨w.heap.size + 1, 0, none⟩ (.slice p1 zz.length q1)).setCell ⟨w.heap.size + 1, 1, none⟩ (.int .i64 bb)).frozen? ⟨w.heap.size + 1, 1, none⟩ = false from ⟨cell_set (cell_set HX5.out.1 (by first | (simp; done) | (simp; omega) | omega) _) (by first | (simp; done) | (simp; omega) | omega) _, cell_set (cell_set HX5.out.2.1 (by first | (simp; done) | (simp; omega) | omega) _) (by first | (simp; done) | (simp; omega) | omega) _, cell_set (cell_set HX5.out.2.2.1 (by first | (simp; done) | (simp; omega) | omega) _) (by first | (simp; done) | (simp; omega) | omega) _, cell_set (cell_set HX5.out.2.2.2.1 (by first | (simp; done) | (simp; omega) | omega) _) (by first | (simp; done) | (simp; omega) | omega) _, by rw [World.frozen?_setCell, World.frozen?_setCell]; exact HX5.out.2.2.2.2.1, by rw [World.frozen?_setCell, World.frozen?_setCell]; exact HX5.out.2.2.2.2.2.1, by rw [World.frozen?_setCell, World.frozen?_setCell]; exact HX5.out.2.2.2.2.2.2.1, by rw [World.frozen?_setCell, World.frozen?_setCell]; exact HX5.out.2.2.2.2.2.2.2⟩)
              have HBW6 := Lib.hid (show Below w.heap.size w ((w5.setCell ⟨w.heap.size + 1, 0, none⟩ (.slice p1 zz.length q1)).setCell ⟨w.heap.size + 1, 1, none⟩ (.int .i64 bb)) from (HBW.out.setCell (by simp) _).setCell (by simp) _)
              have HS6 := Lib.hid (show w.heap.size + 2 < ((w5.setCell ⟨w.heap.size + 1, 0, none⟩ (.slice p1 zz.length q1)).setCell ⟨w.heap.size + 1, 1, none⟩ (.int .i64 bb)).heap.size from by rw [size_set, size_set]; omega)
              have HSP := Lib.hid (show (inn rows zs st (k + 1)).p = (zz, bb) from HST.out)
              go_wp2_with fail
              go_roundw
              case rel => exact ⟨k + 1, by omega, by first | (rw [HCN.out]; done) | (rw [HCN.out]; rfl) | (rw [HCN.out]; congr 1), by go_num, HOK2, Lib.hid (by rw [HSP.out]; exact ⟨p1, q1, HREL2.out.1, HREL2.out.2.reads, fun _ => HREL2.out.2⟩), HX6, HBW6, HS6⟩
              case measure => simp [intOf]; omega
            exact AllReadyH.nil
          exact AllReadyH.nil
        exact AllReadyH.nil
    · obtain rfl : k = rows.length := by omega
      have HO := Lib.hid (hpo HF.out.pos)
      have HOKT := Lib.hid (okTo_of HOK.out)
      obtain ⟨y0, y1⟩ := hpc
      have x2_0 := HX.out.2.2.1
      have x2_1 := HX.out.2.2.2.1
      have f2_0 := HX.out.2.2.2.2.1
      have f2_1 := HX.out.2.2.2.2.2.1
      clear hpo hpr
      have HPO := Lib.hid (show ∀ e w', Below w.heap.size w w' → (∃ v, e = .returned (.tuple #[.agg #[v, .int .i64 (inn rows zs st rows.length).p.2], .int .i64 (cn rows zs st rows.length), .bool true]) ∧ OwnI w.heap.size w'.heap.size w' v (inn rows zs st rows.length).p.1) → PostRound rows zs st w e w' from fun e w' h1 h2 => ⟨h1, fun _ => h2, fun h => by rw [HOKT.out] at h; cases h⟩)
      generalize (inn rows zs st rows.length).p = pp at *
      obtain ⟨ws, b⟩ := pp
      dsimp only at *
      generalize cn rows zs st rows.length = cnt at *
      go_wp2_with fail
      refine bodyPost_ret (v := .tuple #[.agg #[.slice pv ws.length qv, .int .i64 b], .int .i64 (cnt : Int), .bool true]) (by simp [results, Try.results142, go_sem, x2_0, x2_1]) rfl (HPO.out _ _ ?_ ⟨_, rfl, ?_⟩)
      · exact (HBl.out.setCell (by simp; omega) _).setCell (by simp; omega) _
      · simp only [size_set]
        exact ((HO.out.set (by simp) _).set (by simp) _).mono (by omega) (Nat.le_refl _)
end Go.Proofs.Ytocbklmkphgkeaa.walkr
