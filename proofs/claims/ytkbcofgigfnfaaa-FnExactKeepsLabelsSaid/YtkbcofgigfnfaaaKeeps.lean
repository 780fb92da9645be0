/- Places that keep the labels. -/
import Derived.Test.YtkbcofgigfnfaaaNlabS
import Derived.Test.YtkbcofgigfnfaaaNlabI
import Derived.Test.YtkbcofgigfnfaaaFitsP
import Derived.Test.YtkbcofgigfnfaaaSamplesT
import Derived.Test.YtkbcofgigfnfaaaRising
import Derived.Deep.RegionHeld3
import Derived.Deep.DrawnRows
namespace Go.Proofs.Ytkbcofgigfnfaaa.keeps
open Go.RowKit own pp nums nearp squares dots mk nearq nlabp nears nlabs neari nlabi fitsp samplesv samplest rising
set_option linter.unusedVariables false
set_option linter.unusedSimpArgs false

/-- Whether a point is kept. -/
def keepB (rows : List (List Int)) (zs ps : List Int) (i : Nat) : Bool := nlab rows zs ps (rows.getD i []) 1 == zs.getD i 0
def keepsB (rows : List (List Int)) (zs ps : List Int) : Bool := (List.range rows.length).all (keepB rows zs ps)
theorem keeps_all {rows : List (List Int)} {zs ps : List Int} (h : ∀ k, k < rows.length → keepB rows zs ps k = true) : keepsB rows zs ps = true := by
  unfold keepsB
  rw [List.all_eq_true]
  exact fun k hk => h k (List.mem_range.1 hk)
theorem keeps_no {rows : List (List Int)} {zs ps : List Int} (k : Nat) (hk : k < rows.length) (h : keepB rows zs ps k = false) : keepsB rows zs ps = false := by
  cases e : keepsB rows zs ps
  · rfl
  · unfold keepsB at e
    rw [List.all_eq_true] at e
    have := e k (List.mem_range.2 hk)
    rw [h] at this
    exact this.symm
/-- A sample with rising places. -/
def Kept (rows : List (List Int)) (zs ps : List Int) : Prop := sampleB rows zs = true ∧ 1 ≤ ps.length ∧ ps.length ≤ 16 ∧ ∀ j, j < ps.length → 0 ≤ ps.getD j 0 ∧ ps.getD j 0 < (rows.length : Int)
theorem kept_nbr {rows : List (List Int)} {zs ps : List Int} (h : Kept rows zs ps) (i : Nat) (hi : i < rows.length) : Nbr rows ps (rows.getD i []) := by
  obtain ⟨hs, h1, h2, h3⟩ := h
  refine ⟨((sampleB_iff _ _).1 hs).1, h2, fun j hj => ?_⟩
  have h4 := h3 j hj
  refine ⟨h4.1, h4.2, (pairB_iff _ _).2 ?_⟩
  have a1 := sample_at hs (ps.getD j 0).toNat (by omega)
  have a2 := sample_at hs i hi
  exact ⟨a1.1, a2.1, by rw [a1.2.1, a2.2.1]⟩
set_option maxRecDepth 100000 in
set_option maxHeartbeats 1600000 in
theorem impl_keep (a : Option Addr) (rows : List (List Int)) (c : Nat) (a' : Option Addr) (zs : List Int) (c' : Nat) (e : Option Addr) (ps : List Int) (d : Nat) (i : Nat) (w : World) (hr : grid.Reads w a rows) (hz : ints.Reads .i64 w a' zs) (hp : ints.Reads .i64 w e ps) (hK : Kept rows zs ps) (hi : i < rows.length) :
    Calls Try.prog 124 #[.agg #[.slice a rows.length c, .slice a' zs.length c'], .slice e ps.length d, .int .i64 i] w (RetB (keepB rows zs ps i) w) := by
  have Hhr := Lib.hid hr
  have Hhz := Lib.hid hz
  have Hhp := Lib.hid hp
  clear hr hz hp
  have HK := Lib.hid hK
  have HLZ := Lib.hid ((sampleB_iff _ _).1 hK.1).2.1
  have HLB := Lib.hid (lab_of ((sampleB_iff _ _).1 hK.1).2.2.1)
  have hl16 := ((sampleB_iff _ _).1 hK.1).1
  clear hK
  go_enter Try.func124, Try.ntmps124
  obtain ⟨wb1, hw1⟩ : ∃ wb1 : World, wb1 = w.alloc (.cells #[.slice a rows.length c, .slice a' zs.length c'] 29) := ⟨_, rfl⟩
  have z1 : wb1.heap.size = w.heap.size + 1 := by rw [hw1]; simp
  have x0_0 := (by rw [hw1]; exact cell_new _ _ _ rfl rfl : wb1.cell? ⟨w.heap.size, 0, none⟩ = some (.slice a rows.length c))
  have x0_1 := (by rw [hw1]; exact cell_new _ _ _ rfl rfl : wb1.cell? ⟨w.heap.size, 1, none⟩ = some (.slice a' zs.length c'))
  have HB0 := Lib.hid (show Below w.heap.size w wb1 by rw [hw1]; exact (Below.refl w.heap.size w).alloc (Nat.le_refl _) _)
  have s1 : w.heap.size + 1 ≤ wb1.heap.size := by omega
  have HZ1 := Lib.hid z1
  clear z1
  go_wp2_with fail
  rw [← hw1]
  clear hw1
  obtain ⟨bl, off, rp, rq, hab, hbl, hcr, hpq, hrow⟩ := (Hhr.out.below HB0.out).at hi
  subst hab
  obtain ⟨lb, lo, hlb, hll, hlc⟩ := (Hhz.out.below HB0.out).at (k := i) (by have := HLZ.out; omega)
  subst hlb
  have HCK := Lib.hid (show ∀ wa : World, Below wb1.heap.size wb1 wa → Calls Try.prog 69 #[.agg #[.slice (some ⟨bl, off, none⟩) rows.length c, .slice (some ⟨lb, lo, none⟩) zs.length c'], .slice e ps.length d, .slice rp (rows.getD i []).length rq, .int .i64 1] wa (RetN (nlab rows zs ps (rows.getD i []) 1) wa) from fun wa hb => impl_nlab _ rows c _ zs c' e ps d rp (rows.getD i []) rq 1 wa ((Hhr.out.below HB0.out).below hb) ((Hhz.out.below HB0.out).below hb) ((Hhp.out.below HB0.out).below hb) (hrow.below hb) (kept_nbr HK.out i hi) HLB.out HLZ.out HK.out.2.1)
  have HV := Lib.hid (show keepB rows zs ps i = (nlab rows zs ps (rows.getD i []) 1 == zs.getD i 0) from rfl)
  have i1 : (0 : Int) ≤ (i : Int) := by omega
  have i2 : (i : Int) < (rows.length : Int) := by omega
  have i3 : (i : Int) < (zs.length : Int) := by have := HLZ.out; omega
  clear hrow hpq HK
  generalize keepB rows zs ps i = ok at *
  generalize nlab rows zs ps (rows.getD i []) 1 = v at *
  generalize rows.getD i [] = r at *
  generalize zs.getD i 0 = z at *
  refine wp_region_noPanic ?_
  refine wp_region_held_drew (S := fun w' => w'.cell? ⟨w.heap.size, 0, none⟩ = some (.slice (some ⟨bl, off, none⟩) rows.length c) ∧ w'.cell? ⟨w.heap.size, 1, none⟩ = some (.slice (some ⟨lb, lo, none⟩) zs.length c') ∧ w'.cell? ⟨bl, off + i, none⟩ = some (.slice rp r.length rq) ∧ w'.cell? ⟨lb, lo + i, none⟩ = some (.int .i64 z)) (by kernel_rfl) ?_ (fun hHeld => ?_)
  · exact ⟨x0_0, x0_1, hcr, hlc⟩
  refine wpAnyH_take (i := 0) (v := ?_) rfl (by kernel_rfl) (by kernel_rfl) (by kernel_rfl) (fun _ _ _ h => h) (Or.inl ⟨by rfl, ?_⟩) (by assumption) ?_
  rotate_left
  · intro w9 hSw; (try dsimp only at hSw); go_simp; try with_reducible rfl
  try simp only [List.getElem_toArray, List.getElem_cons_succ, List.getElem_cons_zero, Act.put, List.setIfInBounds_toArray, List.set_cons_zero, List.set_cons_succ]
  refine wpAnyH_take (i := 1) (v := ?_) rfl (by kernel_rfl) (by kernel_rfl) (by kernel_rfl) (fun _ _ _ h => h) (Or.inl ⟨by rfl, ?_⟩) (by assumption) ?_
  rotate_left
  · intro w9 hSw; (try dsimp only at hSw); go_simp; try with_reducible rfl
  try simp only [List.getElem_toArray, List.getElem_cons_succ, List.getElem_cons_zero, Act.put, List.setIfInBounds_toArray, List.set_cons_zero, List.set_cons_succ]
  refine wpAnyH_take (i := 2) (v := ?_) rfl (by kernel_rfl) (by kernel_rfl) (by kernel_rfl) (fun _ _ _ h => h) (Or.inl ⟨by rfl, ?_⟩) (by assumption) ?_
  rotate_left
  · intro w9 hSw; (try dsimp only at hSw); go_simp; try with_reducible rfl
  try simp only [List.getElem_toArray, List.getElem_cons_succ, List.getElem_cons_zero, Act.put, List.setIfInBounds_toArray, List.set_cons_zero, List.set_cons_succ]
  refine wpAnyH_take (i := 3) (v := ?_) rfl (by kernel_rfl) (by kernel_rfl) (by kernel_rfl) (fun _ _ _ h => h) (Or.inl ⟨by rfl, ?_⟩) (by assumption) ?_
  rotate_left
  · intro w9 hSw; (try dsimp only at hSw); go_simp; try with_reducible rfl
  try simp only [List.getElem_toArray, List.getElem_cons_succ, List.getElem_cons_zero, Act.put, List.setIfInBounds_toArray, List.set_cons_zero, List.set_cons_succ]
  refine wpAnyH_take (i := 4) (v := ?_) rfl (by kernel_rfl) (by kernel_rfl) (by kernel_rfl) (fun _ _ _ h => h) (Or.inl ⟨by rfl, ?_⟩) (by assumption) ?_
  rotate_left
  · intro w9 hSw; (try dsimp only at hSw); go_simp; try with_reducible rfl
  try simp only [List.getElem_toArray, List.getElem_cons_succ, List.getElem_cons_zero, Act.put, List.setIfInBounds_toArray, List.set_cons_zero, List.set_cons_succ]
  refine wpAnyH_take (i := 5) (v := ?_) rfl (by kernel_rfl) (by kernel_rfl) (by kernel_rfl) (fun _ _ _ h => h) (Or.inl ⟨by rfl, ?_⟩) (by assumption) ?_
  rotate_left
  · intro w9 hSw; (try dsimp only at hSw); go_simp; try with_reducible rfl
  try simp only [List.getElem_toArray, List.getElem_cons_succ, List.getElem_cons_zero, Act.put, List.setIfInBounds_toArray, List.set_cons_zero, List.set_cons_succ]
  refine wpAnyH_take (i := 6) (v := ?_) rfl (by kernel_rfl) (by kernel_rfl) (by kernel_rfl) (fun _ _ _ h => h) (Or.inl ⟨by rfl, ?_⟩) (by assumption) ?_
  rotate_left
  · intro w9 hSw; (try dsimp only at hSw); go_simp; try with_reducible rfl
  try simp only [List.getElem_toArray, List.getElem_cons_succ, List.getElem_cons_zero, Act.put, List.setIfInBounds_toArray, List.set_cons_zero, List.set_cons_succ]
  refine wpAnyH_take (i := 8) (v := ?_) rfl (by kernel_rfl) (by kernel_rfl) (by kernel_rfl) (fun _ _ _ h => h) (Or.inl ⟨by rfl, ?_⟩) (by assumption) ?_
  rotate_left
  · intro w9 hSw; (try dsimp only at hSw); go_simp; try with_reducible rfl
  try simp only [List.getElem_toArray, List.getElem_cons_succ, List.getElem_cons_zero, Act.put, List.setIfInBounds_toArray, List.set_cons_zero, List.set_cons_succ]
  refine wpAnyH_take (i := 9) (v := ?_) rfl (by kernel_rfl) (by kernel_rfl) (by kernel_rfl) (fun _ _ _ h => h) (Or.inl ⟨by rfl, ?_⟩) (by assumption) ?_
  rotate_left
  · intro w9 hSw; (try dsimp only at hSw); go_simp; try with_reducible rfl
  try simp only [List.getElem_toArray, List.getElem_cons_succ, List.getElem_cons_zero, Act.put, List.setIfInBounds_toArray, List.set_cons_zero, List.set_cons_succ]
  refine wpAnyH_take (i := 10) (v := ?_) rfl (by kernel_rfl) (by kernel_rfl) (by kernel_rfl) (fun _ _ _ h => h) (Or.inl ⟨by rfl, ?_⟩) (by assumption) ?_
  rotate_left
  · intro w9 hSw; (try dsimp only at hSw); go_simp; try with_reducible rfl
  try simp only [List.getElem_toArray, List.getElem_cons_succ, List.getElem_cons_zero, Act.put, List.setIfInBounds_toArray, List.set_cons_zero, List.set_cons_succ]
  refine wpAnyH_take (i := 11) (v := ?_) rfl (by kernel_rfl) (by kernel_rfl) (by kernel_rfl) (fun _ _ _ h => h) (Or.inl ⟨by rfl, ?_⟩) (by assumption) ?_
  rotate_left
  · intro w9 hSw; (try dsimp only at hSw); go_simp; try with_reducible rfl
  try simp only [List.getElem_toArray, List.getElem_cons_succ, List.getElem_cons_zero, Act.put, List.setIfInBounds_toArray, List.set_cons_zero, List.set_cons_succ]
  refine wpAnyH_take (i := 12) (v := ?_) rfl (by kernel_rfl) (by kernel_rfl) (by kernel_rfl) (fun _ _ _ h => h) (Or.inl ⟨by rfl, ?_⟩) (by assumption) ?_
  rotate_left
  · intro w9 hSw; (try dsimp only at hSw); go_simp; try with_reducible rfl
  try simp only [List.getElem_toArray, List.getElem_cons_succ, List.getElem_cons_zero, Act.put, List.setIfInBounds_toArray, List.set_cons_zero, List.set_cons_succ]
  refine wpAnyH_ready (rs := [7]) (by kernel_rfl) (by simp) ?_
  refine AllReadyH.cons rfl (fun K hK => ?_) AllReadyH.nil
  clear hHeld
  go_simp
  refine (HCK.out _ (Below.refl _ _).drew).mono ?_
  rintro e' v1 ⟨rfl, hb1⟩
  have HC1 := Lib.hid ((Below.refl wb1.heap.size wb1).drew.trans hb1)
  clear hb1
  have m0 := cell_below HC1.out x0_0 (by omega)
  have m1 := cell_below HC1.out x0_1 (by omega)
  have m2 := cell_below HC1.out hcr (by omega)
  have m3 := cell_below HC1.out hlc (by omega)
  refine hK.out _ _ ?_ (fun hHeld => ?_)
  · exact ⟨m0, m1, m2, m3⟩
  clear hK K
  try simp only [List.getElem_toArray, List.getElem_cons_succ, List.getElem_cons_zero, Act.put, List.setIfInBounds_toArray, List.set_cons_zero, List.set_cons_succ]
  refine wpAnyH_take (i := 13) (v := ?_) rfl (by kernel_rfl) (by kernel_rfl) (by kernel_rfl) (fun _ _ _ h => h) (Or.inl ⟨by rfl, ?_⟩) (by assumption) ?_
  rotate_left
  · intro w9 hSw; (try dsimp only at hSw); go_simp; try with_reducible rfl
  try simp only [List.getElem_toArray, List.getElem_cons_succ, List.getElem_cons_zero, Act.put, List.setIfInBounds_toArray, List.set_cons_zero, List.set_cons_succ]
  refine wpAnyH_take (i := 14) (v := ?_) rfl (by kernel_rfl) (by kernel_rfl) (by kernel_rfl) (fun _ _ _ h => h) (Or.inl ⟨by rfl, ?_⟩) (by assumption) ?_
  rotate_left
  · intro w9 hSw; (try dsimp only at hSw); go_simp; try with_reducible rfl
  try simp only [List.getElem_toArray, List.getElem_cons_succ, List.getElem_cons_zero, Act.put, List.setIfInBounds_toArray, List.set_cons_zero, List.set_cons_succ]
  refine wpAnyH_done (by kernel_rfl) ?_ _
  refine NoPanic.normal ?_
  have HF := Lib.hid (show RetB ok w (.returned (.bool (v == z))) v1 from ⟨by rw [HV.out], HB0.out.trans (HC1.out.mono (by omega))⟩)
  go_wp2_with fail
  go_ret
  exact HF.out
set_option maxRecDepth 100000 in
set_option maxHeartbeats 1600000 in
theorem impl_keeps (a : Option Addr) (rows : List (List Int)) (c : Nat) (a' : Option Addr) (zs : List Int) (c' : Nat) (e : Option Addr) (ps : List Int) (d : Nat) (w : World) (hr : grid.Reads w a rows) (hz : ints.Reads .i64 w a' zs) (hp : ints.Reads .i64 w e ps) (hK : Kept rows zs ps) :
    Calls Try.prog 79 #[.agg #[.slice a rows.length c, .slice a' zs.length c'], .slice e ps.length d] w (RetB (keepsB rows zs ps) w) := by
  have Hhr := Lib.hid hr
  have Hhz := Lib.hid hz
  have Hhp := Lib.hid hp
  clear hr hz hp
  have HK := Lib.hid hK
  have hl16 := ((sampleB_iff _ _).1 hK.1).1
  clear hK
  go_enter Try.func79, Try.ntmps79
  obtain ⟨wb1, hw1⟩ : ∃ wb1 : World, wb1 = w.alloc (.cells #[.slice a rows.length c, .slice a' zs.length c'] 29) := ⟨_, rfl⟩
  have z1 : wb1.heap.size = w.heap.size + 1 := by rw [hw1]; simp
  have x0_0 := (by rw [hw1]; exact cell_new _ _ _ rfl rfl : wb1.cell? ⟨w.heap.size, 0, none⟩ = some (.slice a rows.length c))
  have x0_1 := (by rw [hw1]; exact cell_new _ _ _ rfl rfl : wb1.cell? ⟨w.heap.size, 1, none⟩ = some (.slice a' zs.length c'))
  have HB0 := Lib.hid (show Below w.heap.size w wb1 by rw [hw1]; exact (Below.refl w.heap.size w).alloc (Nat.le_refl _) _)
  have s1 : w.heap.size + 1 ≤ wb1.heap.size := by omega
  have HZ1 := Lib.hid z1
  clear z1
  go_wp2_with fail
  rw [← hw1]
  clear hw1
  go_loopw [9] (fun i wr => ∃ k : Nat, k ≤ rows.length ∧ i = .int .i64 k ∧ Hid (∀ j, j < k → keepB rows zs ps j = true) ∧ Below wb1.heap.size wb1 wr) (fun i _ => rows.length - (intOf i).toNat)
  case atStart => exact ⟨0, Nat.zero_le _, rfl, fun j hj => by omega, Below.refl _ _⟩
  case round =>
    obtain ⟨k, hk1, rfl, hj, hbel⟩ := hrel
    have hsz := hbel.size
    replace x0_0 := cell_below hbel x0_0 (by omega)
    replace x0_1 := cell_below hbel x0_1 (by omega)
    have HBl := Lib.hid hbel
    by_cases hlt : k < rows.length
    · have HC := Lib.hid (impl_keep a rows c a' zs c' e ps d k wr ((Hhr.out.below HB0.out).below hbel) ((Hhz.out.below HB0.out).below hbel) ((Hhp.out.below HB0.out).below hbel) HK.out hlt)
      have i2 : (k : Int) < (rows.length : Int) := by omega
      clear hbel
      cases hx : keepB rows zs ps k
      · have HV := Lib.hid (keeps_no k hlt hx)
        rw [hx] at HC
        clear hx hj
        go_wp2_with fail
        refine HC.out.mono ?_
        rintro e' w2 ⟨rfl, hb⟩
        have HF := Lib.hid (show RetB (keepsB rows zs ps) w (.returned (.bool false)) w2 from ⟨by rw [HV.out], HB0.out.trans ((HBl.out.trans (hb.mono hsz)).mono (by omega))⟩)
        clear hb
        go_wp2_with fail
        go_ret
        exact HF.out
      · have HJ : Hid (∀ j, j < k + 1 → keepB rows zs ps j = true) := fun j h => by
          by_cases e : j = k
          · rw [e]; exact hx
          · exact hj.out j (by omega)
        rw [hx] at HC
        clear hx hj
        go_wp2_with fail
        refine HC.out.mono ?_
        rintro e' w2 ⟨rfl, hb⟩
        have HB2 := Lib.hid (HBl.out.trans (hb.mono hsz))
        clear hb
        go_wp2_with fail
        go_roundw
        case rel => exact ⟨k + 1, by omega, by go_num, HJ, HB2.out⟩
        case measure => simp [intOf]; omega
    · obtain rfl : k = rows.length := by omega
      have HF := Lib.hid (show RetB (keepsB rows zs ps) w (.returned (.bool true)) wr from ⟨by rw [keeps_all hj.out], HB0.out.trans (hbel.mono (by omega))⟩)
      clear hbel hj
      go_wp2_with fail
      go_ret
      exact HF.out
set_option maxRecDepth 100000 in
set_option maxHeartbeats 1600000 in
theorem spec_keeps (a : Option Addr) (rows : List (List Int)) (c : Nat) (a' : Option Addr) (zs : List Int) (c' : Nat) (e : Option Addr) (ps : List Int) (d : Nat) (w : World) (hr : grid.Reads w a rows) (hz : ints.Reads .i64 w a' zs) (hp : ints.Reads .i64 w e ps) (hK : Kept rows zs ps) :
    Calls Try.prog 77 #[.agg #[.slice a rows.length c, .slice a' zs.length c'], .slice e ps.length d] w (RetB (keepsB rows zs ps) w) := by
  have Hhr := Lib.hid hr
  have Hhz := Lib.hid hz
  have Hhp := Lib.hid hp
  clear hr hz hp
  have HK := Lib.hid hK
  have HLZ := Lib.hid ((sampleB_iff _ _).1 hK.1).2.1
  have HLB := Lib.hid (lab_of ((sampleB_iff _ _).1 hK.1).2.2.1)
  have hl16 := ((sampleB_iff _ _).1 hK.1).1
  clear hK
  go_enter Try.func77, Try.ntmps77
  obtain ⟨wb1, hw1⟩ : ∃ wb1 : World, wb1 = w.alloc (.cells #[.slice a rows.length c, .slice a' zs.length c'] 29) := ⟨_, rfl⟩
  have z1 : wb1.heap.size = w.heap.size + 1 := by rw [hw1]; simp
  have x0_0 := (by rw [hw1]; exact cell_new _ _ _ rfl rfl : wb1.cell? ⟨w.heap.size, 0, none⟩ = some (.slice a rows.length c))
  have x0_1 := (by rw [hw1]; exact cell_new _ _ _ rfl rfl : wb1.cell? ⟨w.heap.size, 1, none⟩ = some (.slice a' zs.length c'))
  have HB0 := Lib.hid (show Below w.heap.size w wb1 by rw [hw1]; exact (Below.refl w.heap.size w).alloc (Nat.le_refl _) _)
  have s1 : w.heap.size + 1 ≤ wb1.heap.size := by omega
  have HZ1 := Lib.hid z1
  clear z1
  go_wp2_with fail
  rw [← hw1]
  clear hw1
  go_loopw [5] (fun i wr => ∃ k : Nat, k ≤ rows.length ∧ i = .int .i64 k ∧ Hid (∀ j, j < k → keepB rows zs ps j = true) ∧ Below wb1.heap.size wb1 wr) (fun i _ => rows.length - (intOf i).toNat)
  case atStart => exact ⟨0, Nat.zero_le _, rfl, fun j hj => by omega, Below.refl _ _⟩
  case round =>
    obtain ⟨k, hk1, rfl, hj, hbel⟩ := hrel
    have hsz := hbel.size
    replace x0_0 := cell_below hbel x0_0 (by omega)
    replace x0_1 := cell_below hbel x0_1 (by omega)
    have HBl := Lib.hid hbel
    by_cases hlt : k < rows.length
    · obtain ⟨bl, off, rp, rq, hab, hbl, hcr, hpq, hrow⟩ := (Hhr.out.below HB0.out).at hlt
      subst hab
      replace hcr := cell_below hbel hcr (by omega)
      obtain ⟨lb, lo, hlb, hll, hlc⟩ := (Hhz.out.below HB0.out).at (k := k) (by have := HLZ.out; omega)
      subst hlb
      replace hlc := cell_below hbel hlc (by omega)
      have hrow2 := hrow.below hbel
      have HR9 := Lib.hid ((Hhr.out.below HB0.out).below hbel)
      have HZ9 := Lib.hid ((Hhz.out.below HB0.out).below hbel)
      have HP9 := Lib.hid ((Hhp.out.below HB0.out).below hbel)
      have HCK := Lib.hid (show ∀ wa : World, Below wr.heap.size wr wa → Calls Try.prog 68 #[.agg #[.slice (some ⟨bl, off, none⟩) rows.length c, .slice (some ⟨lb, lo, none⟩) zs.length c'], .slice e ps.length d, .slice rp (rows.getD k []).length rq, .int .i64 1] wa (RetN (nlab rows zs ps (rows.getD k []) 1) wa) from fun wa hb => spec_nlab _ rows c _ zs c' e ps d rp (rows.getD k []) rq 1 wa (HR9.out.below hb) (HZ9.out.below hb) (HP9.out.below hb) (hrow2.below hb) (kept_nbr HK.out k hlt) HLB.out HLZ.out HK.out.2.1)
      have i1 : (0 : Int) ≤ (k : Int) := by omega
      have i2 : (k : Int) < (rows.length : Int) := by omega
      have i3 : (k : Int) < (zs.length : Int) := by have := HLZ.out; omega
      have hbl9 : bl < wr.heap.size := by omega
      have hll9 : lb < wr.heap.size := by omega
      clear hbel hrow hrow2 hpq
      cases hx : keepB rows zs ps k
      · have HV := Lib.hid (keeps_no k hlt hx)
        have g1 : (nlab rows zs ps (rows.getD k []) 1 != zs.getD k 0) = true := by rw [bne, show (nlab rows zs ps (rows.getD k []) 1 == zs.getD k 0) = false from hx]; rfl
        clear hx hj
        generalize nlab rows zs ps (rows.getD k []) 1 = v at *
        generalize rows.getD k [] = r at *
        generalize zs.getD k 0 = z at *
        go_wp2_with fail
        refine wp_region_noPanic ?_
        refine wp_region_held_drew (S := fun w' => w'.cell? ⟨w.heap.size, 0, none⟩ = some (.slice (some ⟨bl, off, none⟩) rows.length c) ∧ w'.cell? ⟨w.heap.size, 1, none⟩ = some (.slice (some ⟨lb, lo, none⟩) zs.length c') ∧ w'.cell? ⟨bl, off + k, none⟩ = some (.slice rp r.length rq) ∧ w'.cell? ⟨lb, lo + k, none⟩ = some (.int .i64 z)) (by kernel_rfl) ?_ (fun hHeld => ?_)
        · exact ⟨x0_0, x0_1, hcr, hlc⟩
        refine wpAnyH_take (i := 0) (v := ?_) rfl (by kernel_rfl) (by kernel_rfl) (by kernel_rfl) (fun _ _ _ h => h) (Or.inl ⟨by rfl, ?_⟩) (by assumption) ?_
        rotate_left
        · intro w9 hSw; (try dsimp only at hSw); go_simp; try with_reducible rfl
        try simp only [List.getElem_toArray, List.getElem_cons_succ, List.getElem_cons_zero, Act.put, List.setIfInBounds_toArray, List.set_cons_zero, List.set_cons_succ]
        refine wpAnyH_take (i := 1) (v := ?_) rfl (by kernel_rfl) (by kernel_rfl) (by kernel_rfl) (fun _ _ _ h => h) (Or.inl ⟨by rfl, ?_⟩) (by assumption) ?_
        rotate_left
        · intro w9 hSw; (try dsimp only at hSw); go_simp; try with_reducible rfl
        try simp only [List.getElem_toArray, List.getElem_cons_succ, List.getElem_cons_zero, Act.put, List.setIfInBounds_toArray, List.set_cons_zero, List.set_cons_succ]
        refine wpAnyH_take (i := 2) (v := ?_) rfl (by kernel_rfl) (by kernel_rfl) (by kernel_rfl) (fun _ _ _ h => h) (Or.inl ⟨by rfl, ?_⟩) (by assumption) ?_
        rotate_left
        · intro w9 hSw; (try dsimp only at hSw); go_simp; try with_reducible rfl
        try simp only [List.getElem_toArray, List.getElem_cons_succ, List.getElem_cons_zero, Act.put, List.setIfInBounds_toArray, List.set_cons_zero, List.set_cons_succ]
        refine wpAnyH_take (i := 3) (v := ?_) rfl (by kernel_rfl) (by kernel_rfl) (by kernel_rfl) (fun _ _ _ h => h) (Or.inl ⟨by rfl, ?_⟩) (by assumption) ?_
        rotate_left
        · intro w9 hSw; (try dsimp only at hSw); go_simp; try with_reducible rfl
        try simp only [List.getElem_toArray, List.getElem_cons_succ, List.getElem_cons_zero, Act.put, List.setIfInBounds_toArray, List.set_cons_zero, List.set_cons_succ]
        refine wpAnyH_take (i := 4) (v := ?_) rfl (by kernel_rfl) (by kernel_rfl) (by kernel_rfl) (fun _ _ _ h => h) (Or.inl ⟨by rfl, ?_⟩) (by assumption) ?_
        rotate_left
        · intro w9 hSw; (try dsimp only at hSw); go_simp; try with_reducible rfl
        try simp only [List.getElem_toArray, List.getElem_cons_succ, List.getElem_cons_zero, Act.put, List.setIfInBounds_toArray, List.set_cons_zero, List.set_cons_succ]
        refine wpAnyH_take (i := 5) (v := ?_) rfl (by kernel_rfl) (by kernel_rfl) (by kernel_rfl) (fun _ _ _ h => h) (Or.inl ⟨by rfl, ?_⟩) (by assumption) ?_
        rotate_left
        · intro w9 hSw; (try dsimp only at hSw); go_simp; try with_reducible rfl
        try simp only [List.getElem_toArray, List.getElem_cons_succ, List.getElem_cons_zero, Act.put, List.setIfInBounds_toArray, List.set_cons_zero, List.set_cons_succ]
        refine wpAnyH_take (i := 6) (v := ?_) rfl (by kernel_rfl) (by kernel_rfl) (by kernel_rfl) (fun _ _ _ h => h) (Or.inl ⟨by rfl, ?_⟩) (by assumption) ?_
        rotate_left
        · intro w9 hSw; (try dsimp only at hSw); go_simp; try with_reducible rfl
        try simp only [List.getElem_toArray, List.getElem_cons_succ, List.getElem_cons_zero, Act.put, List.setIfInBounds_toArray, List.set_cons_zero, List.set_cons_succ]
        refine wpAnyH_take (i := 8) (v := ?_) rfl (by kernel_rfl) (by kernel_rfl) (by kernel_rfl) (fun _ _ _ h => h) (Or.inl ⟨by rfl, ?_⟩) (by assumption) ?_
        rotate_left
        · intro w9 hSw; (try dsimp only at hSw); go_simp; try with_reducible rfl
        try simp only [List.getElem_toArray, List.getElem_cons_succ, List.getElem_cons_zero, Act.put, List.setIfInBounds_toArray, List.set_cons_zero, List.set_cons_succ]
        refine wpAnyH_take (i := 9) (v := ?_) rfl (by kernel_rfl) (by kernel_rfl) (by kernel_rfl) (fun _ _ _ h => h) (Or.inl ⟨by rfl, ?_⟩) (by assumption) ?_
        rotate_left
        · intro w9 hSw; (try dsimp only at hSw); go_simp; try with_reducible rfl
        try simp only [List.getElem_toArray, List.getElem_cons_succ, List.getElem_cons_zero, Act.put, List.setIfInBounds_toArray, List.set_cons_zero, List.set_cons_succ]
        refine wpAnyH_take (i := 10) (v := ?_) rfl (by kernel_rfl) (by kernel_rfl) (by kernel_rfl) (fun _ _ _ h => h) (Or.inl ⟨by rfl, ?_⟩) (by assumption) ?_
        rotate_left
        · intro w9 hSw; (try dsimp only at hSw); go_simp; try with_reducible rfl
        try simp only [List.getElem_toArray, List.getElem_cons_succ, List.getElem_cons_zero, Act.put, List.setIfInBounds_toArray, List.set_cons_zero, List.set_cons_succ]
        refine wpAnyH_take (i := 11) (v := ?_) rfl (by kernel_rfl) (by kernel_rfl) (by kernel_rfl) (fun _ _ _ h => h) (Or.inl ⟨by rfl, ?_⟩) (by assumption) ?_
        rotate_left
        · intro w9 hSw; (try dsimp only at hSw); go_simp; try with_reducible rfl
        try simp only [List.getElem_toArray, List.getElem_cons_succ, List.getElem_cons_zero, Act.put, List.setIfInBounds_toArray, List.set_cons_zero, List.set_cons_succ]
        refine wpAnyH_take (i := 12) (v := ?_) rfl (by kernel_rfl) (by kernel_rfl) (by kernel_rfl) (fun _ _ _ h => h) (Or.inl ⟨by rfl, ?_⟩) (by assumption) ?_
        rotate_left
        · intro w9 hSw; (try dsimp only at hSw); go_simp; try with_reducible rfl
        try simp only [List.getElem_toArray, List.getElem_cons_succ, List.getElem_cons_zero, Act.put, List.setIfInBounds_toArray, List.set_cons_zero, List.set_cons_succ]
        refine wpAnyH_ready (rs := [7]) (by kernel_rfl) (by simp) ?_
        refine AllReadyH.cons rfl (fun K hK => ?_) AllReadyH.nil
        clear hHeld
        go_simp
        refine (HCK.out _ (Below.refl _ _).drew).mono ?_
        rintro e' v1 ⟨rfl, hb1⟩
        have HC1 := Lib.hid ((Below.refl wr.heap.size wr).drew.trans hb1)
        clear hb1
        have m0 := cell_below HC1.out x0_0 (by omega)
        have m1 := cell_below HC1.out x0_1 (by omega)
        have m2 := cell_below HC1.out hcr (by omega)
        have m3 := cell_below HC1.out hlc (by omega)
        refine hK.out _ _ ?_ (fun hHeld => ?_)
        · exact ⟨m0, m1, m2, m3⟩
        clear hK K
        try simp only [List.getElem_toArray, List.getElem_cons_succ, List.getElem_cons_zero, Act.put, List.setIfInBounds_toArray, List.set_cons_zero, List.set_cons_succ]
        refine wpAnyH_take (i := 13) (v := ?_) rfl (by kernel_rfl) (by kernel_rfl) (by kernel_rfl) (fun _ _ _ h => h) (Or.inl ⟨by rfl, ?_⟩) (by assumption) ?_
        rotate_left
        · intro w9 hSw; (try dsimp only at hSw); go_simp; try with_reducible rfl
        try simp only [List.getElem_toArray, List.getElem_cons_succ, List.getElem_cons_zero, Act.put, List.setIfInBounds_toArray, List.set_cons_zero, List.set_cons_succ]
        refine wpAnyH_done (by kernel_rfl) ?_ _
        refine NoPanic.normal ?_
        have HF := Lib.hid (show RetB (keepsB rows zs ps) w (.returned (.bool false)) v1 from ⟨by rw [HV.out], HB0.out.trans ((HBl.out.trans (HC1.out.mono hsz)).mono (by omega))⟩)
        go_wp2_with fail
        go_ret
        exact HF.out
      · have HJ : Hid (∀ j, j < k + 1 → keepB rows zs ps j = true) := fun j h => by
          by_cases e : j = k
          · rw [e]; exact hx
          · exact hj.out j (by omega)
        have g1 : (nlab rows zs ps (rows.getD k []) 1 != zs.getD k 0) = false := by rw [bne, show (nlab rows zs ps (rows.getD k []) 1 == zs.getD k 0) = true from hx]; rfl
        clear hx hj
        generalize nlab rows zs ps (rows.getD k []) 1 = v at *
        generalize rows.getD k [] = r at *
        generalize zs.getD k 0 = z at *
        go_wp2_with fail
        refine wp_region_noPanic ?_
        refine wp_region_held_drew (S := fun w' => w'.cell? ⟨w.heap.size, 0, none⟩ = some (.slice (some ⟨bl, off, none⟩) rows.length c) ∧ w'.cell? ⟨w.heap.size, 1, none⟩ = some (.slice (some ⟨lb, lo, none⟩) zs.length c') ∧ w'.cell? ⟨bl, off + k, none⟩ = some (.slice rp r.length rq) ∧ w'.cell? ⟨lb, lo + k, none⟩ = some (.int .i64 z)) (by kernel_rfl) ?_ (fun hHeld => ?_)
        · exact ⟨x0_0, x0_1, hcr, hlc⟩
        refine wpAnyH_take (i := 0) (v := ?_) rfl (by kernel_rfl) (by kernel_rfl) (by kernel_rfl) (fun _ _ _ h => h) (Or.inl ⟨by rfl, ?_⟩) (by assumption) ?_
        rotate_left
        · intro w9 hSw; (try dsimp only at hSw); go_simp; try with_reducible rfl
        try simp only [List.getElem_toArray, List.getElem_cons_succ, List.getElem_cons_zero, Act.put, List.setIfInBounds_toArray, List.set_cons_zero, List.set_cons_succ]
        refine wpAnyH_take (i := 1) (v := ?_) rfl (by kernel_rfl) (by kernel_rfl) (by kernel_rfl) (fun _ _ _ h => h) (Or.inl ⟨by rfl, ?_⟩) (by assumption) ?_
        rotate_left
        · intro w9 hSw; (try dsimp only at hSw); go_simp; try with_reducible rfl
        try simp only [List.getElem_toArray, List.getElem_cons_succ, List.getElem_cons_zero, Act.put, List.setIfInBounds_toArray, List.set_cons_zero, List.set_cons_succ]
        refine wpAnyH_take (i := 2) (v := ?_) rfl (by kernel_rfl) (by kernel_rfl) (by kernel_rfl) (fun _ _ _ h => h) (Or.inl ⟨by rfl, ?_⟩) (by assumption) ?_
        rotate_left
        · intro w9 hSw; (try dsimp only at hSw); go_simp; try with_reducible rfl
        try simp only [List.getElem_toArray, List.getElem_cons_succ, List.getElem_cons_zero, Act.put, List.setIfInBounds_toArray, List.set_cons_zero, List.set_cons_succ]
        refine wpAnyH_take (i := 3) (v := ?_) rfl (by kernel_rfl) (by kernel_rfl) (by kernel_rfl) (fun _ _ _ h => h) (Or.inl ⟨by rfl, ?_⟩) (by assumption) ?_
        rotate_left
        · intro w9 hSw; (try dsimp only at hSw); go_simp; try with_reducible rfl
        try simp only [List.getElem_toArray, List.getElem_cons_succ, List.getElem_cons_zero, Act.put, List.setIfInBounds_toArray, List.set_cons_zero, List.set_cons_succ]
        refine wpAnyH_take (i := 4) (v := ?_) rfl (by kernel_rfl) (by kernel_rfl) (by kernel_rfl) (fun _ _ _ h => h) (Or.inl ⟨by rfl, ?_⟩) (by assumption) ?_
        rotate_left
        · intro w9 hSw; (try dsimp only at hSw); go_simp; try with_reducible rfl
        try simp only [List.getElem_toArray, List.getElem_cons_succ, List.getElem_cons_zero, Act.put, List.setIfInBounds_toArray, List.set_cons_zero, List.set_cons_succ]
        refine wpAnyH_take (i := 5) (v := ?_) rfl (by kernel_rfl) (by kernel_rfl) (by kernel_rfl) (fun _ _ _ h => h) (Or.inl ⟨by rfl, ?_⟩) (by assumption) ?_
        rotate_left
        · intro w9 hSw; (try dsimp only at hSw); go_simp; try with_reducible rfl
        try simp only [List.getElem_toArray, List.getElem_cons_succ, List.getElem_cons_zero, Act.put, List.setIfInBounds_toArray, List.set_cons_zero, List.set_cons_succ]
        refine wpAnyH_take (i := 6) (v := ?_) rfl (by kernel_rfl) (by kernel_rfl) (by kernel_rfl) (fun _ _ _ h => h) (Or.inl ⟨by rfl, ?_⟩) (by assumption) ?_
        rotate_left
        · intro w9 hSw; (try dsimp only at hSw); go_simp; try with_reducible rfl
        try simp only [List.getElem_toArray, List.getElem_cons_succ, List.getElem_cons_zero, Act.put, List.setIfInBounds_toArray, List.set_cons_zero, List.set_cons_succ]
        refine wpAnyH_take (i := 8) (v := ?_) rfl (by kernel_rfl) (by kernel_rfl) (by kernel_rfl) (fun _ _ _ h => h) (Or.inl ⟨by rfl, ?_⟩) (by assumption) ?_
        rotate_left
        · intro w9 hSw; (try dsimp only at hSw); go_simp; try with_reducible rfl
        try simp only [List.getElem_toArray, List.getElem_cons_succ, List.getElem_cons_zero, Act.put, List.setIfInBounds_toArray, List.set_cons_zero, List.set_cons_succ]
        refine wpAnyH_take (i := 9) (v := ?_) rfl (by kernel_rfl) (by kernel_rfl) (by kernel_rfl) (fun _ _ _ h => h) (Or.inl ⟨by rfl, ?_⟩) (by assumption) ?_
        rotate_left
        · intro w9 hSw; (try dsimp only at hSw); go_simp; try with_reducible rfl
        try simp only [List.getElem_toArray, List.getElem_cons_succ, List.getElem_cons_zero, Act.put, List.setIfInBounds_toArray, List.set_cons_zero, List.set_cons_succ]
        refine wpAnyH_take (i := 10) (v := ?_) rfl (by kernel_rfl) (by kernel_rfl) (by kernel_rfl) (fun _ _ _ h => h) (Or.inl ⟨by rfl, ?_⟩) (by assumption) ?_
        rotate_left
        · intro w9 hSw; (try dsimp only at hSw); go_simp; try with_reducible rfl
        try simp only [List.getElem_toArray, List.getElem_cons_succ, List.getElem_cons_zero, Act.put, List.setIfInBounds_toArray, List.set_cons_zero, List.set_cons_succ]
        refine wpAnyH_take (i := 11) (v := ?_) rfl (by kernel_rfl) (by kernel_rfl) (by kernel_rfl) (fun _ _ _ h => h) (Or.inl ⟨by rfl, ?_⟩) (by assumption) ?_
        rotate_left
        · intro w9 hSw; (try dsimp only at hSw); go_simp; try with_reducible rfl
        try simp only [List.getElem_toArray, List.getElem_cons_succ, List.getElem_cons_zero, Act.put, List.setIfInBounds_toArray, List.set_cons_zero, List.set_cons_succ]
        refine wpAnyH_take (i := 12) (v := ?_) rfl (by kernel_rfl) (by kernel_rfl) (by kernel_rfl) (fun _ _ _ h => h) (Or.inl ⟨by rfl, ?_⟩) (by assumption) ?_
        rotate_left
        · intro w9 hSw; (try dsimp only at hSw); go_simp; try with_reducible rfl
        try simp only [List.getElem_toArray, List.getElem_cons_succ, List.getElem_cons_zero, Act.put, List.setIfInBounds_toArray, List.set_cons_zero, List.set_cons_succ]
        refine wpAnyH_ready (rs := [7]) (by kernel_rfl) (by simp) ?_
        refine AllReadyH.cons rfl (fun K hK => ?_) AllReadyH.nil
        clear hHeld
        go_simp
        refine (HCK.out _ (Below.refl _ _).drew).mono ?_
        rintro e' v1 ⟨rfl, hb1⟩
        have HC1 := Lib.hid ((Below.refl wr.heap.size wr).drew.trans hb1)
        clear hb1
        have m0 := cell_below HC1.out x0_0 (by omega)
        have m1 := cell_below HC1.out x0_1 (by omega)
        have m2 := cell_below HC1.out hcr (by omega)
        have m3 := cell_below HC1.out hlc (by omega)
        refine hK.out _ _ ?_ (fun hHeld => ?_)
        · exact ⟨m0, m1, m2, m3⟩
        clear hK K
        try simp only [List.getElem_toArray, List.getElem_cons_succ, List.getElem_cons_zero, Act.put, List.setIfInBounds_toArray, List.set_cons_zero, List.set_cons_succ]
        refine wpAnyH_take (i := 13) (v := ?_) rfl (by kernel_rfl) (by kernel_rfl) (by kernel_rfl) (fun _ _ _ h => h) (Or.inl ⟨by rfl, ?_⟩) (by assumption) ?_
        rotate_left
        · intro w9 hSw; (try dsimp only at hSw); go_simp; try with_reducible rfl
        try simp only [List.getElem_toArray, List.getElem_cons_succ, List.getElem_cons_zero, Act.put, List.setIfInBounds_toArray, List.set_cons_zero, List.set_cons_succ]
        refine wpAnyH_done (by kernel_rfl) ?_ _
        refine NoPanic.normal ?_
        go_wp2_with fail
        go_roundw
        case rel => exact ⟨k + 1, by omega, by go_num, HJ, HBl.out.trans (HC1.out.mono hsz)⟩
        case measure => simp [intOf]; omega
    · obtain rfl : k = rows.length := by omega
      have i2 : ¬ (rows.length : Int) < (rows.length : Int) := by omega
      have HF := Lib.hid (show RetB (keepsB rows zs ps) w (.returned (.bool true)) wr from ⟨by rw [keeps_all hj.out], HB0.out.trans (hbel.mono (by omega))⟩)
      clear hbel hj
      go_wp2_with fail
      go_ret
      exact HF.out
theorem rises_ge {n : Int} {zs : List Int} (h : risesB n zs = true) (k : Nat) (hk : k < zs.length) : (k : Int) ≤ zs.getD k 0 := by
  induction k with
  | zero =>
    have := rises_at h 0 hk
    simp only [riseAt, Bool.and_eq_true, decide_eq_true_eq] at this
    omega
  | succ k ih =>
    have h1 := ih (by omega)
    have h2 := rises_at h (k + 1) hk
    simp only [riseAt, Bool.and_eq_true, Bool.or_eq_true, decide_eq_true_eq, Nat.add_sub_cancel] at h2
    have h3 := h2.2
    omega
def klB (rows : List (List Int)) (zs ps : List Int) : Bool := sampleB rows zs && !(decide (ps.length = 0)) && risesB (rows.length : Int) ps
theorem kept_of {rows : List (List Int)} {zs ps : List Int} (h : klB rows zs ps = true) : Kept rows zs ps := by
  simp only [klB, Bool.and_eq_true, Bool.not_eq_true', decide_eq_false_iff_not] at h
  obtain ⟨⟨hs, h0⟩, hr⟩ := h
  have h16 := ((sampleB_iff _ _).1 hs).1
  have hat : ∀ j, j < ps.length → 0 ≤ ps.getD j 0 ∧ ps.getD j 0 < (rows.length : Int) := fun j hj => by
    have h2 := rises_at hr j hj
    simp only [riseAt, Bool.and_eq_true, decide_eq_true_eq] at h2
    omega
  refine ⟨hs, by omega, ?_, hat⟩
  have h3 := rises_ge hr (ps.length - 1) (by omega)
  have h4 := hat (ps.length - 1) (by omega)
  omega
set_option maxRecDepth 100000 in
set_option maxHeartbeats 1600000 in
theorem spec_kl_no (a : Option Addr) (rows : List (List Int)) (c : Nat) (a' : Option Addr) (zs : List Int) (c' : Nat) (e : Option Addr) (ps : List Int) (d : Nat) (w : World) (hr : grid.Reads w a rows) (hz : ints.Reads .i64 w a' zs) (hp : ints.Reads .i64 w e ps) (hn : rows.length ≤ 1048576) (hk : zs.length ≤ 1048576) (hm : ∀ r ∈ rows, r.length ≤ 1048576) (hpn : ps.length ≤ 1048576) (h : klB rows zs ps = false) :
    Calls Try.prog 29 #[.agg #[.slice a rows.length c, .slice a' zs.length c'], .slice e ps.length d] w (RetBB false false w) := by
  have Hhr := Lib.hid hr
  have Hhz := Lib.hid hz
  have Hhp := Lib.hid hp
  have Hhm := Lib.hid hm
  clear hr hz hp hm
  have e1 : IntKind.i64.wrap ((rows.length : Int) - 1) = (rows.length : Int) - 1 := IntWalk.i64_in _ (by omega)
  cases hs : sampleB rows zs
  · have HS := Lib.hid hs
    clear h hs
    go_enter Try.func29, Try.ntmps29
    obtain ⟨wb1, hw1⟩ : ∃ wb1 : World, wb1 = w.alloc (.cells #[.slice a rows.length c, .slice a' zs.length c'] 29) := ⟨_, rfl⟩
    have z1 : wb1.heap.size = w.heap.size + 1 := by rw [hw1]; simp
    have x0_0 := (by rw [hw1]; exact cell_new _ _ _ rfl rfl : wb1.cell? ⟨w.heap.size, 0, none⟩ = some (.slice a rows.length c))
    have x0_1 := (by rw [hw1]; exact cell_new _ _ _ rfl rfl : wb1.cell? ⟨w.heap.size, 1, none⟩ = some (.slice a' zs.length c'))
    have HB0 := Lib.hid (show Below w.heap.size w wb1 by rw [hw1]; exact (Below.refl w.heap.size w).alloc (Nat.le_refl _) _)
    have s1 : w.heap.size + 1 ≤ wb1.heap.size := by omega
    have HZ1 := Lib.hid z1
    clear z1
    go_wp2_with fail
    rw [← hw1]
    clear hw1
    refine (spec_sample a rows c a' zs c' wb1 (Hhr.out.below HB0.out) (Hhz.out.below HB0.out) hn hk Hhm.out false HS).mono ?_
    rintro e' w2 ⟨rfl, hb⟩
    replace x0_0 := cell_below hb x0_0 (by omega)
    replace x0_1 := cell_below hb x0_1 (by omega)
    have s2 := hb.size
    have HB2 := Lib.hid (HB0.out.trans (hb.mono HB0.out.size))
    clear hb
    go_wp2_with fail
    go_ret2
    exact ⟨rfl, HB2.out⟩
  have HS := Lib.hid hs
  by_cases h0 : ps.length = 0
  · have g : ((ps.length : Int) == 0) = true := by rw [h0]; rfl
    clear h hs h0
    go_enter Try.func29, Try.ntmps29
    obtain ⟨wb1, hw1⟩ : ∃ wb1 : World, wb1 = w.alloc (.cells #[.slice a rows.length c, .slice a' zs.length c'] 29) := ⟨_, rfl⟩
    have z1 : wb1.heap.size = w.heap.size + 1 := by rw [hw1]; simp
    have x0_0 := (by rw [hw1]; exact cell_new _ _ _ rfl rfl : wb1.cell? ⟨w.heap.size, 0, none⟩ = some (.slice a rows.length c))
    have x0_1 := (by rw [hw1]; exact cell_new _ _ _ rfl rfl : wb1.cell? ⟨w.heap.size, 1, none⟩ = some (.slice a' zs.length c'))
    have HB0 := Lib.hid (show Below w.heap.size w wb1 by rw [hw1]; exact (Below.refl w.heap.size w).alloc (Nat.le_refl _) _)
    have s1 : w.heap.size + 1 ≤ wb1.heap.size := by omega
    have HZ1 := Lib.hid z1
    clear z1
    go_wp2_with fail
    rw [← hw1]
    clear hw1
    refine (spec_sample a rows c a' zs c' wb1 (Hhr.out.below HB0.out) (Hhz.out.below HB0.out) hn hk Hhm.out true HS).mono ?_
    rintro e' w2 ⟨rfl, hb⟩
    replace x0_0 := cell_below hb x0_0 (by omega)
    replace x0_1 := cell_below hb x0_1 (by omega)
    have s2 := hb.size
    have HB2 := Lib.hid (HB0.out.trans (hb.mono HB0.out.size))
    clear hb
    go_wp2_with fail
    go_ret2
    exact ⟨rfl, HB2.out⟩
  · have g : ((ps.length : Int) == 0) = false := len_beq0 _ h0
    have HR := Lib.hid (show risesB (rows.length : Int) ps = false by rw [← h]; unfold klB; rw [hs, show decide (ps.length = 0) = false from decide_eq_false h0]; rfl)
    clear h hs h0
    go_enter Try.func29, Try.ntmps29
    obtain ⟨wb1, hw1⟩ : ∃ wb1 : World, wb1 = w.alloc (.cells #[.slice a rows.length c, .slice a' zs.length c'] 29) := ⟨_, rfl⟩
    have z1 : wb1.heap.size = w.heap.size + 1 := by rw [hw1]; simp
    have x0_0 := (by rw [hw1]; exact cell_new _ _ _ rfl rfl : wb1.cell? ⟨w.heap.size, 0, none⟩ = some (.slice a rows.length c))
    have x0_1 := (by rw [hw1]; exact cell_new _ _ _ rfl rfl : wb1.cell? ⟨w.heap.size, 1, none⟩ = some (.slice a' zs.length c'))
    have HB0 := Lib.hid (show Below w.heap.size w wb1 by rw [hw1]; exact (Below.refl w.heap.size w).alloc (Nat.le_refl _) _)
    have s1 : w.heap.size + 1 ≤ wb1.heap.size := by omega
    have HZ1 := Lib.hid z1
    clear z1
    go_wp2_with fail
    rw [← hw1]
    clear hw1
    refine (spec_sample a rows c a' zs c' wb1 (Hhr.out.below HB0.out) (Hhz.out.below HB0.out) hn hk Hhm.out true HS).mono ?_
    rintro e' w2 ⟨rfl, hb⟩
    replace x0_0 := cell_below hb x0_0 (by omega)
    replace x0_1 := cell_below hb x0_1 (by omega)
    have s2 := hb.size
    have HB2 := Lib.hid (HB0.out.trans (hb.mono HB0.out.size))
    clear hb
    go_wp2_with fail
    refine (spec_rising e ps d (rows.length : Int) w2 (Hhp.out.below HB2.out) hpn false HR).mono ?_
    rintro e' w3 ⟨rfl, m9, rfl⟩
    have hb := ints.below_drewN (Below.refl w2.heap.size w2) m9
    generalize hw9 : w2.drewN m9 = w3 at *
    clear hw9
    replace x0_0 := cell_below hb x0_0 (by omega)
    replace x0_1 := cell_below hb x0_1 (by omega)
    have HB3 := Lib.hid (HB2.out.trans (hb.mono HB2.out.size))
    clear hb
    go_wp2_with fail
    go_ret2
    exact ⟨rfl, HB3.out⟩
set_option maxRecDepth 100000 in
set_option maxHeartbeats 1600000 in
theorem spec_kl_yes (a : Option Addr) (rows : List (List Int)) (c : Nat) (a' : Option Addr) (zs : List Int) (c' : Nat) (e : Option Addr) (ps : List Int) (d : Nat) (w : World) (hr : grid.Reads w a rows) (hz : ints.Reads .i64 w a' zs) (hp : ints.Reads .i64 w e ps) (hn : rows.length ≤ 1048576) (hk : zs.length ≤ 1048576) (hm : ∀ r ∈ rows, r.length ≤ 1048576) (hpn : ps.length ≤ 1048576) (h : klB rows zs ps = true) :
    Calls Try.prog 29 #[.agg #[.slice a rows.length c, .slice a' zs.length c'], .slice e ps.length d] w (RetBB (keepsB rows zs ps) true w) := by
  have Hhr := Lib.hid hr
  have Hhz := Lib.hid hz
  have Hhp := Lib.hid hp
  have Hhm := Lib.hid hm
  clear hr hz hp hm
  have e1 : IntKind.i64.wrap ((rows.length : Int) - 1) = (rows.length : Int) - 1 := IntWalk.i64_in _ (by omega)
  have HK := Lib.hid (kept_of h)
  simp only [klB, Bool.and_eq_true, Bool.not_eq_true', decide_eq_false_iff_not] at h
  obtain ⟨⟨hs, h0⟩, hr9⟩ := h
  have HS := Lib.hid hs
  have HR := Lib.hid hr9
  have g : ((ps.length : Int) == 0) = false := len_beq0 _ h0
  clear hs h0 hr9
  go_enter Try.func29, Try.ntmps29
  obtain ⟨wb1, hw1⟩ : ∃ wb1 : World, wb1 = w.alloc (.cells #[.slice a rows.length c, .slice a' zs.length c'] 29) := ⟨_, rfl⟩
  have z1 : wb1.heap.size = w.heap.size + 1 := by rw [hw1]; simp
  have x0_0 := (by rw [hw1]; exact cell_new _ _ _ rfl rfl : wb1.cell? ⟨w.heap.size, 0, none⟩ = some (.slice a rows.length c))
  have x0_1 := (by rw [hw1]; exact cell_new _ _ _ rfl rfl : wb1.cell? ⟨w.heap.size, 1, none⟩ = some (.slice a' zs.length c'))
  have HB0 := Lib.hid (show Below w.heap.size w wb1 by rw [hw1]; exact (Below.refl w.heap.size w).alloc (Nat.le_refl _) _)
  have s1 : w.heap.size + 1 ≤ wb1.heap.size := by omega
  have HZ1 := Lib.hid z1
  clear z1
  go_wp2_with fail
  rw [← hw1]
  clear hw1
  refine (spec_sample a rows c a' zs c' wb1 (Hhr.out.below HB0.out) (Hhz.out.below HB0.out) hn hk Hhm.out true HS).mono ?_
  rintro e' w2 ⟨rfl, hb⟩
  replace x0_0 := cell_below hb x0_0 (by omega)
  replace x0_1 := cell_below hb x0_1 (by omega)
  have s2 := hb.size
  have HB2 := Lib.hid (HB0.out.trans (hb.mono HB0.out.size))
  clear hb
  go_wp2_with fail
  refine (spec_rising e ps d (rows.length : Int) w2 (Hhp.out.below HB2.out) hpn true HR).mono ?_
  rintro e' w3 ⟨rfl, m9, rfl⟩
  have hb := ints.below_drewN (Below.refl w2.heap.size w2) m9
  generalize hw9 : w2.drewN m9 = w3 at *
  clear hw9
  replace x0_0 := cell_below hb x0_0 (by omega)
  replace x0_1 := cell_below hb x0_1 (by omega)
  have HB3 := Lib.hid (HB2.out.trans (hb.mono HB2.out.size))
  clear hb
  go_wp2_with fail
  refine (spec_keeps a rows c a' zs c' e ps d w3 (Hhr.out.below HB3.out) (Hhz.out.below HB3.out) (Hhp.out.below HB3.out) HK.out).mono ?_
  rintro e' w4 ⟨rfl, hb⟩
  have HB4 := Lib.hid (HB3.out.trans (hb.mono HB3.out.size))
  clear hb
  go_wp2_with fail
  go_ret2
  exact ⟨rfl, HB4.out⟩
set_option maxRecDepth 100000 in
set_option maxHeartbeats 1600000 in
theorem impl_kl_no (a : Option Addr) (rows : List (List Int)) (c : Nat) (a' : Option Addr) (zs : List Int) (c' : Nat) (e : Option Addr) (ps : List Int) (d : Nat) (w : World) (hr : grid.Reads w a rows) (hz : ints.Reads .i64 w a' zs) (hp : ints.Reads .i64 w e ps) (hn : rows.length ≤ 1048576) (hk : zs.length ≤ 1048576) (hm : ∀ r ∈ rows, r.length ≤ 1048576) (hpn : ps.length ≤ 1048576) (h : klB rows zs ps = false) :
    Calls Try.prog 30 #[.agg #[.slice a rows.length c, .slice a' zs.length c'], .slice e ps.length d] w (RetBB false false w) := by
  have Hhr := Lib.hid hr
  have Hhz := Lib.hid hz
  have Hhp := Lib.hid hp
  have Hhm := Lib.hid hm
  clear hr hz hp hm
  cases hs : sampleB rows zs
  · have HS := Lib.hid hs
    clear h hs
    go_enter Try.func30, Try.ntmps30
    obtain ⟨wb1, hw1⟩ : ∃ wb1 : World, wb1 = w.alloc (.cells #[.slice a rows.length c, .slice a' zs.length c'] 29) := ⟨_, rfl⟩
    have z1 : wb1.heap.size = w.heap.size + 1 := by rw [hw1]; simp
    have x0_0 := (by rw [hw1]; exact cell_new _ _ _ rfl rfl : wb1.cell? ⟨w.heap.size, 0, none⟩ = some (.slice a rows.length c))
    have x0_1 := (by rw [hw1]; exact cell_new _ _ _ rfl rfl : wb1.cell? ⟨w.heap.size, 1, none⟩ = some (.slice a' zs.length c'))
    have HB0 := Lib.hid (show Below w.heap.size w wb1 by rw [hw1]; exact (Below.refl w.heap.size w).alloc (Nat.le_refl _) _)
    have s1 : w.heap.size + 1 ≤ wb1.heap.size := by omega
    have HZ1 := Lib.hid z1
    clear z1
    go_wp2_with fail
    rw [← hw1]
    clear hw1
    refine (impl_sample a rows c a' zs c' wb1 (Hhr.out.below HB0.out) (Hhz.out.below HB0.out) hn hk Hhm.out false HS).mono ?_
    rintro e' w2 ⟨rfl, hb⟩
    replace x0_0 := cell_below hb x0_0 (by omega)
    replace x0_1 := cell_below hb x0_1 (by omega)
    have s2 := hb.size
    have HB2 := Lib.hid (HB0.out.trans (hb.mono HB0.out.size))
    clear hb
    go_wp2_with fail
    go_ret2
    exact ⟨rfl, HB2.out⟩
  have HS := Lib.hid hs
  by_cases h0 : ps.length = 0
  · have g : ((ps.length : Int) == 0) = true := by rw [h0]; rfl
    clear h hs h0
    go_enter Try.func30, Try.ntmps30
    obtain ⟨wb1, hw1⟩ : ∃ wb1 : World, wb1 = w.alloc (.cells #[.slice a rows.length c, .slice a' zs.length c'] 29) := ⟨_, rfl⟩
    have z1 : wb1.heap.size = w.heap.size + 1 := by rw [hw1]; simp
    have x0_0 := (by rw [hw1]; exact cell_new _ _ _ rfl rfl : wb1.cell? ⟨w.heap.size, 0, none⟩ = some (.slice a rows.length c))
    have x0_1 := (by rw [hw1]; exact cell_new _ _ _ rfl rfl : wb1.cell? ⟨w.heap.size, 1, none⟩ = some (.slice a' zs.length c'))
    have HB0 := Lib.hid (show Below w.heap.size w wb1 by rw [hw1]; exact (Below.refl w.heap.size w).alloc (Nat.le_refl _) _)
    have s1 : w.heap.size + 1 ≤ wb1.heap.size := by omega
    have HZ1 := Lib.hid z1
    clear z1
    go_wp2_with fail
    rw [← hw1]
    clear hw1
    refine (impl_sample a rows c a' zs c' wb1 (Hhr.out.below HB0.out) (Hhz.out.below HB0.out) hn hk Hhm.out true HS).mono ?_
    rintro e' w2 ⟨rfl, hb⟩
    replace x0_0 := cell_below hb x0_0 (by omega)
    replace x0_1 := cell_below hb x0_1 (by omega)
    have s2 := hb.size
    have HB2 := Lib.hid (HB0.out.trans (hb.mono HB0.out.size))
    clear hb
    go_wp2_with fail
    go_ret2
    exact ⟨rfl, HB2.out⟩
  · have g : ((ps.length : Int) == 0) = false := len_beq0 _ h0
    have HR := Lib.hid (show risesB (rows.length : Int) ps = false by rw [← h]; unfold klB; rw [hs, show decide (ps.length = 0) = false from decide_eq_false h0]; rfl)
    clear h hs h0
    go_enter Try.func30, Try.ntmps30
    obtain ⟨wb1, hw1⟩ : ∃ wb1 : World, wb1 = w.alloc (.cells #[.slice a rows.length c, .slice a' zs.length c'] 29) := ⟨_, rfl⟩
    have z1 : wb1.heap.size = w.heap.size + 1 := by rw [hw1]; simp
    have x0_0 := (by rw [hw1]; exact cell_new _ _ _ rfl rfl : wb1.cell? ⟨w.heap.size, 0, none⟩ = some (.slice a rows.length c))
    have x0_1 := (by rw [hw1]; exact cell_new _ _ _ rfl rfl : wb1.cell? ⟨w.heap.size, 1, none⟩ = some (.slice a' zs.length c'))
    have HB0 := Lib.hid (show Below w.heap.size w wb1 by rw [hw1]; exact (Below.refl w.heap.size w).alloc (Nat.le_refl _) _)
    have s1 : w.heap.size + 1 ≤ wb1.heap.size := by omega
    have HZ1 := Lib.hid z1
    clear z1
    go_wp2_with fail
    rw [← hw1]
    clear hw1
    refine (impl_sample a rows c a' zs c' wb1 (Hhr.out.below HB0.out) (Hhz.out.below HB0.out) hn hk Hhm.out true HS).mono ?_
    rintro e' w2 ⟨rfl, hb⟩
    replace x0_0 := cell_below hb x0_0 (by omega)
    replace x0_1 := cell_below hb x0_1 (by omega)
    have s2 := hb.size
    have HB2 := Lib.hid (HB0.out.trans (hb.mono HB0.out.size))
    clear hb
    go_wp2_with fail
    refine (impl_places e ps d (rows.length : Int) w2 (Hhp.out.below HB2.out) hpn false HR).mono ?_
    rintro e' w' ⟨rfl, rfl⟩
    have HB3 := HB2
    go_wp2_with fail
    go_ret2
    exact ⟨rfl, HB3.out⟩
set_option maxRecDepth 100000 in
set_option maxHeartbeats 1600000 in
theorem impl_kl_yes (a : Option Addr) (rows : List (List Int)) (c : Nat) (a' : Option Addr) (zs : List Int) (c' : Nat) (e : Option Addr) (ps : List Int) (d : Nat) (w : World) (hr : grid.Reads w a rows) (hz : ints.Reads .i64 w a' zs) (hp : ints.Reads .i64 w e ps) (hn : rows.length ≤ 1048576) (hk : zs.length ≤ 1048576) (hm : ∀ r ∈ rows, r.length ≤ 1048576) (hpn : ps.length ≤ 1048576) (h : klB rows zs ps = true) :
    Calls Try.prog 30 #[.agg #[.slice a rows.length c, .slice a' zs.length c'], .slice e ps.length d] w (RetBB (keepsB rows zs ps) true w) := by
  have Hhr := Lib.hid hr
  have Hhz := Lib.hid hz
  have Hhp := Lib.hid hp
  have Hhm := Lib.hid hm
  clear hr hz hp hm
  have HK := Lib.hid (kept_of h)
  simp only [klB, Bool.and_eq_true, Bool.not_eq_true', decide_eq_false_iff_not] at h
  obtain ⟨⟨hs, h0⟩, hr9⟩ := h
  have HS := Lib.hid hs
  have HR := Lib.hid hr9
  have g : ((ps.length : Int) == 0) = false := len_beq0 _ h0
  clear hs h0 hr9
  go_enter Try.func30, Try.ntmps30
  obtain ⟨wb1, hw1⟩ : ∃ wb1 : World, wb1 = w.alloc (.cells #[.slice a rows.length c, .slice a' zs.length c'] 29) := ⟨_, rfl⟩
  have z1 : wb1.heap.size = w.heap.size + 1 := by rw [hw1]; simp
  have x0_0 := (by rw [hw1]; exact cell_new _ _ _ rfl rfl : wb1.cell? ⟨w.heap.size, 0, none⟩ = some (.slice a rows.length c))
  have x0_1 := (by rw [hw1]; exact cell_new _ _ _ rfl rfl : wb1.cell? ⟨w.heap.size, 1, none⟩ = some (.slice a' zs.length c'))
  have HB0 := Lib.hid (show Below w.heap.size w wb1 by rw [hw1]; exact (Below.refl w.heap.size w).alloc (Nat.le_refl _) _)
  have s1 : w.heap.size + 1 ≤ wb1.heap.size := by omega
  have HZ1 := Lib.hid z1
  clear z1
  go_wp2_with fail
  rw [← hw1]
  clear hw1
  refine (impl_sample a rows c a' zs c' wb1 (Hhr.out.below HB0.out) (Hhz.out.below HB0.out) hn hk Hhm.out true HS).mono ?_
  rintro e' w2 ⟨rfl, hb⟩
  replace x0_0 := cell_below hb x0_0 (by omega)
  replace x0_1 := cell_below hb x0_1 (by omega)
  have s2 := hb.size
  have HB2 := Lib.hid (HB0.out.trans (hb.mono HB0.out.size))
  clear hb
  go_wp2_with fail
  refine (impl_places e ps d (rows.length : Int) w2 (Hhp.out.below HB2.out) hpn true HR).mono ?_
  rintro e' w' ⟨rfl, rfl⟩
  have HB3 := HB2
  go_wp2_with fail
  refine (impl_keeps a rows c a' zs c' e ps d w2 (Hhr.out.below HB3.out) (Hhz.out.below HB3.out) (Hhp.out.below HB3.out) HK.out).mono ?_
  rintro e' w4 ⟨rfl, hb⟩
  have HB4 := Lib.hid (HB3.out.trans (hb.mono HB3.out.size))
  clear hb
  go_wp2_with fail
  go_ret2
  exact ⟨rfl, HB4.out⟩
end Go.Proofs.Ytkbcofgigfnfaaa.keeps
