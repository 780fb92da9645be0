/- The force of counts at a point. -/
import Derived.Test.YtkbcofgigfnfaaaKern
import Derived.Test.YtkbcofgigfnfaaaFitsP
import Derived.Test.YtkbcofgigfnfaaaRange
import Derived.Deep.RegionHeld3
import Derived.Deep.DrawnRows
namespace Go.Proofs.Ytkbcofgigfnfaaa.force
open Go.RowKit own pp nums squares dots kern range fitsp
set_option linter.unusedVariables false
set_option linter.unusedSimpArgs false

/-- The force of counts among the first k points. -/
def forceTo (rows : List (List Int)) (zs cs : List Int) (e : Int) (xs : List Int) : Nat → Int
  | 0 => 0
  | k + 1 => forceTo rows zs cs e xs k + cs.getD k 0 * zs.getD k 0 * kern (rows.getD k []) xs e
def force (rows : List (List Int)) (zs cs : List Int) (e : Int) (xs : List Int) : Int := forceTo rows zs cs e xs rows.length
def cntB (rows : List (List Int)) (zs cs : List Int) (e : Int) : Bool := sampleB rows zs && decide (cs.length = rows.length) && numsR 0 999 cs && degB e
theorem cntB_iff (rows : List (List Int)) (zs cs : List Int) (e : Int) : cntB rows zs cs e = true ↔ sampleB rows zs = true ∧ cs.length = rows.length ∧ numsR 0 999 cs = true ∧ degB e = true := by simp [cntB, and_assoc]
/-- Rows and counts of which a force is told. -/
def Forced (rows : List (List Int)) (zs cs : List Int) (e : Int) (xs : List Int) : Prop :=
  rows.length ≤ 16 ∧ zs.length = rows.length ∧ cs.length = rows.length ∧ degB e = true ∧ pointB xs = true ∧ ∀ k, k < rows.length → pointB (rows.getD k []) = true ∧ (rows.getD k []).length = xs.length ∧ (-1 ≤ zs.getD k 0 ∧ zs.getD k 0 ≤ 1) ∧ (0 ≤ cs.getD k 0 ∧ cs.getD k 0 ≤ 999)
theorem force_bd {rows : List (List Int)} {zs cs : List Int} {e : Int} {xs : List Int} (h : Forced rows zs cs e xs) (k : Nat) (hk : k ≤ rows.length) : -(34293796875 * (k : Int)) ≤ forceTo rows zs cs e xs k ∧ forceTo rows zs cs e xs k ≤ 34293796875 * (k : Int) := by
  induction k with
  | zero => simp [forceTo]
  | succ k ih =>
    have h1 := ih (by omega)
    obtain ⟨h2, h3, h4, h5⟩ := h.2.2.2.2.2 k (by omega)
    have h6 := kern_bd h2 h.2.2.2.2.1 h3 h.2.2.2.1
    have h7 := mul_bd (A := 999) (B := 1) (x := cs.getD k 0) (y := zs.getD k 0) (by omega) (by omega) h4.1 h4.2
    have h8 := mul_bd (A := 999) (B := 34328125) (x := cs.getD k 0 * zs.getD k 0) (y := kern (rows.getD k []) xs e) (by omega) (by omega) h6.1 h6.2
    show -(34293796875 * ((k + 1 : Nat) : Int)) ≤ forceTo rows zs cs e xs k + cs.getD k 0 * zs.getD k 0 * kern (rows.getD k []) xs e ∧ forceTo rows zs cs e xs k + cs.getD k 0 * zs.getD k 0 * kern (rows.getD k []) xs e ≤ 34293796875 * ((k + 1 : Nat) : Int)
    omega
theorem forced_of {rows : List (List Int)} {zs cs : List Int} {e : Int} {xs : List Int} (h : cntB rows zs cs e = true) (hx : fitsB rows xs = true) : Forced rows zs cs e xs := by
  have h1 := (cntB_iff _ _ _ _).1 h
  have h2 := (sampleB_iff _ _).1 h1.1
  replace hx := (fitsB_iff _ _).1 hx
  refine ⟨h2.1, h2.2.1, h1.2.1, h1.2.2.2, hx.1, fun k hk => ?_⟩
  have h3 := sample_at h1.1 k hk
  have h4 := numsR_at h1.2.2.1 k (by omega)
  refine ⟨h3.1, ?_, by omega, h4⟩
  rcases hx.2 with h9 | h9
  · omega
  · rw [h3.2.1, h9]
theorem forced_row {rows : List (List Int)} {zs cs : List Int} {e : Int} (h : cntB rows zs cs e = true) (k : Nat) (hk : k < rows.length) : Forced rows zs cs e (rows.getD k []) := by
  have h3 := sample_at ((cntB_iff _ _ _ _).1 h).1 k hk
  refine forced_of h ?_
  exact (fitsB_iff _ _).2 ⟨h3.1, .inr h3.2.1⟩
set_option maxRecDepth 100000 in
set_option maxHeartbeats 1600000 in
theorem spec_force (a : Option Addr) (rows : List (List Int)) (c : Nat) (a' : Option Addr) (zs : List Int) (c' : Nat) (e : Option Addr) (cs : List Int) (d : Nat) (n : Int) (x : Option Addr) (xs : List Int) (q : Nat) (w : World) (hr : grid.Reads w a rows) (hz : ints.Reads .i64 w a' zs) (hc : ints.Reads .i64 w e cs) (hx : ints.Reads .i64 w x xs) (hF : Forced rows zs cs n xs) :
    Calls Try.prog 97 #[.agg #[.slice a rows.length c, .slice a' zs.length c'], .slice e cs.length d, .int .i64 n, .slice x xs.length q] w (RetN (force rows zs cs n xs) w) := by
  have hF0 := hF
  have hl16 := hF.1
  have HLZ := Lib.hid hF.2.1
  have HLC := Lib.hid hF.2.2.1
  have HFO := Lib.hid hF
  clear hF hF0
  have Hhr := Lib.hid hr
  have Hhz := Lib.hid hz
  have Hhc := Lib.hid hc
  have Hhx := Lib.hid hx
  clear hr hz hc hx
  go_enter Try.func97, Try.ntmps97
  obtain ⟨wb1, hw1⟩ : ∃ wb1 : World, wb1 = w.alloc (.cells #[.slice a rows.length c, .slice a' zs.length c'] 29) := ⟨_, rfl⟩
  have z1 : wb1.heap.size = w.heap.size + 1 := by rw [hw1]; simp
  have x0_0 := (by rw [hw1]; exact cell_new _ _ _ rfl rfl : wb1.cell? ⟨w.heap.size, 0, none⟩ = some (.slice a rows.length c))
  have x0_1 := (by rw [hw1]; exact cell_new _ _ _ rfl rfl : wb1.cell? ⟨w.heap.size, 1, none⟩ = some (.slice a' zs.length c'))
  have HB0 := Lib.hid (show Below w.heap.size w wb1 by rw [hw1]; exact (Below.refl w.heap.size w).alloc (Nat.le_refl _) _)
  have s1 : w.heap.size + 1 ≤ wb1.heap.size := by omega
  have HZ1 := Lib.hid z1
  clear z1
  go_wp2_with fail
  rw [← hw1]
  clear hw1
  go_loopw [9, 10] (fun s i wr => ∃ k : Nat, k ≤ rows.length ∧ i = .int .i64 k ∧ s = .int .i64 (forceTo rows zs cs n xs k) ∧ Below wb1.heap.size wb1 wr) (fun _ i _ => rows.length - (intOf i).toNat)
  case atStart => exact ⟨0, Nat.zero_le _, rfl, rfl, Below.refl _ _⟩
  case round =>
    obtain ⟨k, hk, rfl, rfl, hbel⟩ := hrel
    have hsz := hbel.size
    replace x0_0 := cell_below hbel x0_0 (by omega)
    replace x0_1 := cell_below hbel x0_1 (by omega)
    by_cases hlt : k < rows.length
    · have hF := HFO.out
      obtain ⟨bl, off, rp, rq, hab, hbl, hc, hpq, hrow⟩ := (Hhr.out.below HB0.out).at hlt
      subst hab
      replace hc := cell_below hbel hc (by omega)
      obtain ⟨lb, lo, hlb, hll, hlc⟩ := (Hhz.out.below HB0.out).at (k := k) (by have := HLZ.out; omega)
      subst hlb
      replace hlc := cell_below hbel hlc (by omega)
      obtain ⟨be, bo, hbe, hle, hcc⟩ := (Hhc.out.below HB0.out).at (k := k) (by have := HLC.out; omega)
      subst hbe
      replace hcc := cell_below hbel hcc (by omega)
      obtain ⟨h2, h3, h4, h5⟩ := hF.2.2.2.2.2 k hlt
      have hkb := kern_bd h2 hF.2.2.2.2.1 h3 hF.2.2.2.1
      have h7 := mul_bd (A := 999) (B := 1) (x := cs.getD k 0) (y := zs.getD k 0) (by omega) (by omega) h4.1 h4.2
      have h8 := mul_bd (A := 999) (B := 34328125) (x := cs.getD k 0 * zs.getD k 0) (y := kern (rows.getD k []) xs n) (by omega) (by omega) hkb.1 hkb.2
      have hfb := force_bd hF k hk
      have HX1 := Lib.hid ((Hhx.out.below HB0.out).below hbel)
      replace hrow := hrow.below hbel
      have HCK := Lib.hid (show ∀ wa : World, Below wr.heap.size wr wa → Calls Try.prog 93 #[.slice rp (rows.getD k []).length rq, .slice x xs.length q, .int .i64 n] wa (RetN (kern (rows.getD k []) xs n) wa) from fun wa hb => kern.spec_kernel rp (rows.getD k []) rq x xs q n wa (hrow.below hb) (HX1.out.below hb) h2 hF.2.2.2.2.1 h3 hF.2.2.2.1)
      have HT := Lib.hid (show forceTo rows zs cs n xs (k + 1) = forceTo rows zs cs n xs k + cs.getD k 0 * zs.getD k 0 * kern (rows.getD k []) xs n from rfl)
      have HBl := Lib.hid hbel
      have i1 : (0 : Int) ≤ (k : Int) := by omega
      have i2 : (k : Int) < (rows.length : Int) := by omega
      have i3 : (k : Int) < (zs.length : Int) := by have := HLZ.out; omega
      have i4 : (k : Int) < (cs.length : Int) := by have := HLC.out; omega
      clear hbel hrow hpq hF h2 h3 h4 h5 hkb
      generalize kern (rows.getD k []) xs n = K at *
      generalize rows.getD k [] = r at *
      generalize zs.getD k 0 = z at *
      generalize cs.getD k 0 = y at *
      generalize forceTo rows zs cs n xs k = s at *
      have e1 : IntKind.i64.wrap (y * z) = y * z := IntWalk.i64_in _ (by omega)
      have e2 : IntKind.i64.wrap (y * z * K) = y * z * K := IntWalk.i64_in _ (by omega)
      have e3 : IntKind.i64.wrap (s + y * z * K) = s + y * z * K := IntWalk.i64_in _ (by omega)
      clear h7 h8 hfb
      go_wp2_with fail
      refine wp_region_noPanic ?_
      refine wp_region_held_drew (S := fun w' => w'.cell? ⟨w.heap.size, 0, none⟩ = some (.slice (some ⟨bl, off, none⟩) rows.length c) ∧ w'.cell? ⟨w.heap.size, 1, none⟩ = some (.slice (some ⟨lb, lo, none⟩) zs.length c') ∧ w'.cell? ⟨bl, off + k, none⟩ = some (.slice rp r.length rq) ∧ w'.cell? ⟨lb, lo + k, none⟩ = some (.int .i64 z) ∧ w'.cell? ⟨be, bo + k, none⟩ = some (.int .i64 y)) (by kernel_rfl) ?_ (fun hHeld => ?_)
      · exact ⟨x0_0, x0_1, hc, hlc, hcc⟩
      refine wpAnyH_take (i := 0) (v := ?_) rfl (by kernel_rfl) (by kernel_rfl) (by kernel_rfl) (fun _ _ _ h => h) (Or.inl ⟨by rfl, ?_⟩) (by assumption) ?_
      rotate_left
      · intro w9 hSw; (try dsimp only at hSw); go_simp; try with_reducible rfl
      try simp only [List.getElem_toArray, List.getElem_cons_succ, List.getElem_cons_zero, Act.put, List.setIfInBounds_toArray, List.set_cons_zero, List.set_cons_succ]
      refine wpAnyH_take (i := 1) (v := ?_) rfl (by kernel_rfl) (by kernel_rfl) (by kernel_rfl) (fun _ _ _ h => h) (Or.inl ⟨by rfl, ?_⟩) (by assumption) ?_
      rotate_left
      · intro w9 hSw; (try dsimp only at hSw); go_simp; try with_reducible rfl
      try simp only [List.getElem_toArray, List.getElem_cons_succ, List.getElem_cons_zero, Act.put, List.setIfInBounds_toArray, List.set_cons_zero, List.set_cons_succ]
      refine wpAnyH_take (i := 2) (v := ?_) rfl (by kernel_rfl) (by kernel_rfl) (by kernel_rfl) (fun _ _ _ h => h) (Or.inl ⟨by rfl, ?_⟩) (by assumption) ?_
      rotate_left
      · intro w9 hSw; (try dsimp only at hSw); go_simp; try with_reducible rfl
      try simp only [List.getElem_toArray, List.getElem_cons_succ, List.getElem_cons_zero, Act.put, List.setIfInBounds_toArray, List.set_cons_zero, List.set_cons_succ]
      refine wpAnyH_take (i := 3) (v := ?_) rfl (by kernel_rfl) (by kernel_rfl) (by kernel_rfl) (fun _ _ _ h => h) (Or.inl ⟨by rfl, ?_⟩) (by assumption) ?_
      rotate_left
      · intro w9 hSw; (try dsimp only at hSw); go_simp; try with_reducible rfl
      try simp only [List.getElem_toArray, List.getElem_cons_succ, List.getElem_cons_zero, Act.put, List.setIfInBounds_toArray, List.set_cons_zero, List.set_cons_succ]
      refine wpAnyH_take (i := 4) (v := ?_) rfl (by kernel_rfl) (by kernel_rfl) (by kernel_rfl) (fun _ _ _ h => h) (Or.inl ⟨by rfl, ?_⟩) (by assumption) ?_
      rotate_left
      · intro w9 hSw; (try dsimp only at hSw); go_simp; try with_reducible rfl
      try simp only [List.getElem_toArray, List.getElem_cons_succ, List.getElem_cons_zero, Act.put, List.setIfInBounds_toArray, List.set_cons_zero, List.set_cons_succ]
      refine wpAnyH_take (i := 5) (v := ?_) rfl (by kernel_rfl) (by kernel_rfl) (by kernel_rfl) (fun _ _ _ h => h) (Or.inl ⟨by rfl, ?_⟩) (by assumption) ?_
      rotate_left
      · intro w9 hSw; (try dsimp only at hSw); go_simp; try with_reducible rfl
      try simp only [List.getElem_toArray, List.getElem_cons_succ, List.getElem_cons_zero, Act.put, List.setIfInBounds_toArray, List.set_cons_zero, List.set_cons_succ]
      refine wpAnyH_take (i := 6) (v := ?_) rfl (by kernel_rfl) (by kernel_rfl) (by kernel_rfl) (fun _ _ _ h => h) (Or.inl ⟨by rfl, ?_⟩) (by assumption) ?_
      rotate_left
      · intro w9 hSw; (try dsimp only at hSw); go_simp; try with_reducible rfl
      try simp only [List.getElem_toArray, List.getElem_cons_succ, List.getElem_cons_zero, Act.put, List.setIfInBounds_toArray, List.set_cons_zero, List.set_cons_succ]
      refine wpAnyH_take (i := 7) (v := ?_) rfl (by kernel_rfl) (by kernel_rfl) (by kernel_rfl) (fun _ _ _ h => h) (Or.inl ⟨by rfl, ?_⟩) (by assumption) ?_
      rotate_left
      · intro w9 hSw; (try dsimp only at hSw); go_simp; try with_reducible rfl
      try simp only [List.getElem_toArray, List.getElem_cons_succ, List.getElem_cons_zero, Act.put, List.setIfInBounds_toArray, List.set_cons_zero, List.set_cons_succ]
      refine wpAnyH_take (i := 8) (v := ?_) rfl (by kernel_rfl) (by kernel_rfl) (by kernel_rfl) (fun _ _ _ h => h) (Or.inl ⟨by rfl, ?_⟩) (by assumption) ?_
      rotate_left
      · intro w9 hSw; (try dsimp only at hSw); go_simp; try with_reducible rfl
      try simp only [List.getElem_toArray, List.getElem_cons_succ, List.getElem_cons_zero, Act.put, List.setIfInBounds_toArray, List.set_cons_zero, List.set_cons_succ]
      refine wpAnyH_take (i := 9) (v := ?_) rfl (by kernel_rfl) (by kernel_rfl) (by kernel_rfl) (fun _ _ _ h => h) (Or.inl ⟨by rfl, ?_⟩) (by assumption) ?_
      rotate_left
      · intro w9 hSw; (try dsimp only at hSw); go_simp; try with_reducible rfl
      try simp only [List.getElem_toArray, List.getElem_cons_succ, List.getElem_cons_zero, Act.put, List.setIfInBounds_toArray, List.set_cons_zero, List.set_cons_succ]
      refine wpAnyH_take (i := 10) (v := ?_) rfl (by kernel_rfl) (by kernel_rfl) (by kernel_rfl) (fun _ _ _ h => h) (Or.inl ⟨by rfl, ?_⟩) (by assumption) ?_
      rotate_left
      · intro w9 hSw; (try dsimp only at hSw); go_simp; try with_reducible rfl
      try simp only [List.getElem_toArray, List.getElem_cons_succ, List.getElem_cons_zero, Act.put, List.setIfInBounds_toArray, List.set_cons_zero, List.set_cons_succ]
      refine wpAnyH_take (i := 11) (v := ?_) rfl (by kernel_rfl) (by kernel_rfl) (by kernel_rfl) (fun _ _ _ h => h) (Or.inl ⟨by rfl, ?_⟩) (by assumption) ?_
      rotate_left
      · intro w9 hSw; (try dsimp only at hSw); go_simp; try with_reducible rfl
      try simp only [List.getElem_toArray, List.getElem_cons_succ, List.getElem_cons_zero, Act.put, List.setIfInBounds_toArray, List.set_cons_zero, List.set_cons_succ]
      refine wpAnyH_take (i := 12) (v := ?_) rfl (by kernel_rfl) (by kernel_rfl) (by kernel_rfl) (fun _ _ _ h => h) (Or.inl ⟨by rfl, ?_⟩) (by assumption) ?_
      rotate_left
      · intro w9 hSw; (try dsimp only at hSw); go_simp; try with_reducible rfl
      try simp only [List.getElem_toArray, List.getElem_cons_succ, List.getElem_cons_zero, Act.put, List.setIfInBounds_toArray, List.set_cons_zero, List.set_cons_succ]
      refine wpAnyH_take (i := 13) (v := ?_) rfl (by kernel_rfl) (by kernel_rfl) (by kernel_rfl) (fun _ _ _ h => h) (Or.inl ⟨by rfl, ?_⟩) (by assumption) ?_
      rotate_left
      · intro w9 hSw; (try dsimp only at hSw); go_simp; try with_reducible rfl
      try simp only [List.getElem_toArray, List.getElem_cons_succ, List.getElem_cons_zero, Act.put, List.setIfInBounds_toArray, List.set_cons_zero, List.set_cons_succ]
      refine wpAnyH_take (i := 14) (v := ?_) rfl (by kernel_rfl) (by kernel_rfl) (by kernel_rfl) (fun _ _ _ h => h) (Or.inl ⟨by rfl, ?_⟩) (by assumption) ?_
      rotate_left
      · intro w9 hSw; (try dsimp only at hSw); go_simp; try with_reducible rfl
      try simp only [List.getElem_toArray, List.getElem_cons_succ, List.getElem_cons_zero, Act.put, List.setIfInBounds_toArray, List.set_cons_zero, List.set_cons_succ]
      refine wpAnyH_take (i := 15) (v := ?_) rfl (by kernel_rfl) (by kernel_rfl) (by kernel_rfl) (fun _ _ _ h => h) (Or.inl ⟨by rfl, ?_⟩) (by assumption) ?_
      rotate_left
      · intro w9 hSw; (try dsimp only at hSw); go_simp; try with_reducible rfl
      try simp only [List.getElem_toArray, List.getElem_cons_succ, List.getElem_cons_zero, Act.put, List.setIfInBounds_toArray, List.set_cons_zero, List.set_cons_succ]
      refine wpAnyH_take (i := 16) (v := ?_) rfl (by kernel_rfl) (by kernel_rfl) (by kernel_rfl) (fun _ _ _ h => h) (Or.inl ⟨by rfl, ?_⟩) (by assumption) ?_
      rotate_left
      · intro w9 hSw; (try dsimp only at hSw); go_simp; try with_reducible rfl
      try simp only [List.getElem_toArray, List.getElem_cons_succ, List.getElem_cons_zero, Act.put, List.setIfInBounds_toArray, List.set_cons_zero, List.set_cons_succ]
      refine wpAnyH_take (i := 17) (v := ?_) rfl (by kernel_rfl) (by kernel_rfl) (by kernel_rfl) (fun _ _ _ h => h) (Or.inl ⟨by rfl, ?_⟩) (by assumption) ?_
      rotate_left
      · intro w9 hSw; (try dsimp only at hSw); go_simp; try with_reducible rfl
      try simp only [List.getElem_toArray, List.getElem_cons_succ, List.getElem_cons_zero, Act.put, List.setIfInBounds_toArray, List.set_cons_zero, List.set_cons_succ]
      refine wpAnyH_ready (rs := [18]) (by kernel_rfl) (by simp) ?_
      refine AllReadyH.cons rfl (fun K hK => ?_) AllReadyH.nil
      clear hHeld
      go_simp
      refine (HCK.out _ (Below.refl _ _).drew).mono ?_
      rintro e' v1 ⟨rfl, hb1⟩
      have HC1 := Lib.hid ((Below.refl wr.heap.size wr).drew.trans hb1)
      have m0 := cell_below HC1.out x0_0 (by omega)
      have m1 := cell_below HC1.out x0_1 (by omega)
      have m2 := cell_below HC1.out hc (by omega)
      have m3 := cell_below HC1.out hlc (by omega)
      have m4 := cell_below HC1.out hcc (by omega)
      clear hb1
      refine hK.out _ _ ?_ (fun hHeld => ?_)
      · exact ⟨m0, m1, m2, m3, m4⟩
      clear hK K
      try simp only [List.getElem_toArray, List.getElem_cons_succ, List.getElem_cons_zero, Act.put, List.setIfInBounds_toArray, List.set_cons_zero, List.set_cons_succ]
      refine wpAnyH_take (i := 19) (v := ?_) rfl (by kernel_rfl) (by kernel_rfl) (by kernel_rfl) (fun _ _ _ h => h) (Or.inl ⟨by rfl, ?_⟩) (by assumption) ?_
      rotate_left
      · intro w9 hSw; (try dsimp only at hSw); go_simp; try with_reducible rfl
      try simp only [List.getElem_toArray, List.getElem_cons_succ, List.getElem_cons_zero, Act.put, List.setIfInBounds_toArray, List.set_cons_zero, List.set_cons_succ]
      refine wpAnyH_take (i := 20) (v := ?_) rfl (by kernel_rfl) (by kernel_rfl) (by kernel_rfl) (fun _ _ _ h => h) (Or.inl ⟨by rfl, ?_⟩) (by assumption) ?_
      rotate_left
      · intro w9 hSw; (try dsimp only at hSw); go_simp; try with_reducible rfl
      try simp only [List.getElem_toArray, List.getElem_cons_succ, List.getElem_cons_zero, Act.put, List.setIfInBounds_toArray, List.set_cons_zero, List.set_cons_succ]
      refine wpAnyH_take (i := 21) (v := ?_) rfl (by kernel_rfl) (by kernel_rfl) (by kernel_rfl) (fun _ _ _ h => h) (Or.inl ⟨by rfl, ?_⟩) (by assumption) ?_
      rotate_left
      · intro w9 hSw; (try dsimp only at hSw); go_simp; try with_reducible rfl
      try simp only [List.getElem_toArray, List.getElem_cons_succ, List.getElem_cons_zero, Act.put, List.setIfInBounds_toArray, List.set_cons_zero, List.set_cons_succ]
      refine wpAnyH_done (by kernel_rfl) ?_ _
      refine NoPanic.normal ?_
      go_wp2_with fail
      go_roundw
      case rel => exact ⟨k + 1, by omega, by go_num, by rw [HT.out], HBl.out.trans (HC1.out.mono hsz)⟩
      case measure => simp [intOf]; omega
    · obtain rfl : k = rows.length := by omega
      have HBl := Lib.hid (HB0.out.trans (hbel.mono (by omega)))
      have i4 : ¬ (rows.length : Int) < (cs.length : Int) := by have := HLC.out; omega
      clear hbel
      go_wp2_with fail
      go_ret
      exact ⟨rfl, HBl.out⟩
set_option maxRecDepth 100000 in
set_option maxHeartbeats 1600000 in
theorem impl_force (a : Option Addr) (rows : List (List Int)) (c : Nat) (a' : Option Addr) (zs : List Int) (c' : Nat) (e : Option Addr) (cs : List Int) (d : Nat) (n : Int) (x : Option Addr) (xs : List Int) (q : Nat) (w : World) (hr : grid.Reads w a rows) (hz : ints.Reads .i64 w a' zs) (hc : ints.Reads .i64 w e cs) (hx : ints.Reads .i64 w x xs) (hF : Forced rows zs cs n xs) :
    Calls Try.prog 100 #[.agg #[.slice a rows.length c, .slice a' zs.length c'], .slice e cs.length d, .int .i64 n, .slice x xs.length q] w (RetN (force rows zs cs n xs) w) := by
  have hF0 := hF
  have hl16 := hF.1
  have HLZ := Lib.hid hF.2.1
  have HLC := Lib.hid hF.2.2.1
  have HFO := Lib.hid hF
  clear hF hF0
  have Hhr := Lib.hid hr
  have Hhz := Lib.hid hz
  have Hhc := Lib.hid hc
  have Hhx := Lib.hid hx
  clear hr hz hc hx
  go_enter Try.func100, Try.ntmps100
  obtain ⟨wb1, hw1⟩ : ∃ wb1 : World, wb1 = w.alloc (.cells #[.slice a rows.length c, .slice a' zs.length c'] 29) := ⟨_, rfl⟩
  have z1 : wb1.heap.size = w.heap.size + 1 := by rw [hw1]; simp
  have x0_0 := (by rw [hw1]; exact cell_new _ _ _ rfl rfl : wb1.cell? ⟨w.heap.size, 0, none⟩ = some (.slice a rows.length c))
  have x0_1 := (by rw [hw1]; exact cell_new _ _ _ rfl rfl : wb1.cell? ⟨w.heap.size, 1, none⟩ = some (.slice a' zs.length c'))
  have HB0 := Lib.hid (show Below w.heap.size w wb1 by rw [hw1]; exact (Below.refl w.heap.size w).alloc (Nat.le_refl _) _)
  have s1 : w.heap.size + 1 ≤ wb1.heap.size := by omega
  have HZ1 := Lib.hid z1
  clear z1
  go_wp2_with fail
  rw [← hw1]
  clear hw1
  go_loopw [9, 15] (fun s i wr => ∃ k : Nat, k ≤ rows.length ∧ i = .int .i64 k ∧ s = .int .i64 (forceTo rows zs cs n xs k) ∧ Below wb1.heap.size wb1 wr) (fun _ i _ => rows.length - (intOf i).toNat)
  case atStart => exact ⟨0, Nat.zero_le _, rfl, rfl, Below.refl _ _⟩
  case round =>
    obtain ⟨k, hk, rfl, rfl, hbel⟩ := hrel
    have hsz := hbel.size
    replace x0_0 := cell_below hbel x0_0 (by omega)
    replace x0_1 := cell_below hbel x0_1 (by omega)
    by_cases hlt : k < rows.length
    · have hF := HFO.out
      obtain ⟨bl, off, rp, rq, hab, hbl, hc, hpq, hrow⟩ := (Hhr.out.below HB0.out).at hlt
      subst hab
      replace hc := cell_below hbel hc (by omega)
      obtain ⟨lb, lo, hlb, hll, hlc⟩ := (Hhz.out.below HB0.out).at (k := k) (by have := HLZ.out; omega)
      subst hlb
      replace hlc := cell_below hbel hlc (by omega)
      obtain ⟨be, bo, hbe, hle, hcc⟩ := (Hhc.out.below HB0.out).at (k := k) (by have := HLC.out; omega)
      subst hbe
      replace hcc := cell_below hbel hcc (by omega)
      obtain ⟨h2, h3, h4, h5⟩ := hF.2.2.2.2.2 k hlt
      have hkb := kern_bd h2 hF.2.2.2.2.1 h3 hF.2.2.2.1
      have h7 := mul_bd (A := 999) (B := 1) (x := cs.getD k 0) (y := zs.getD k 0) (by omega) (by omega) h4.1 h4.2
      have h8 := mul_bd (A := 999) (B := 34328125) (x := cs.getD k 0 * zs.getD k 0) (y := kern (rows.getD k []) xs n) (by omega) (by omega) hkb.1 hkb.2
      have hfb := force_bd hF k hk
      have HX1 := Lib.hid ((Hhx.out.below HB0.out).below hbel)
      replace hrow := hrow.below hbel
      have HCK := Lib.hid (show ∀ wa : World, Below wr.heap.size wr wa → Calls Try.prog 95 #[.slice x xs.length q, .slice rp (rows.getD k []).length rq, .int .i64 n] wa (RetN (kern (rows.getD k []) xs n) wa) from fun wa hb => (by rw [kern_comm (rows.getD k []) xs n h3]; exact kern.impl_kernel x xs q rp (rows.getD k []) rq n wa (HX1.out.below hb) (hrow.below hb) hF.2.2.2.2.1 h2 h3.symm hF.2.2.2.1))
      have HT := Lib.hid (show forceTo rows zs cs n xs (k + 1) = forceTo rows zs cs n xs k + cs.getD k 0 * zs.getD k 0 * kern (rows.getD k []) xs n from rfl)
      have HBl := Lib.hid hbel
      have i1 : (0 : Int) ≤ (k : Int) := by omega
      have i2 : (k : Int) < (rows.length : Int) := by omega
      have i3 : (k : Int) < (zs.length : Int) := by have := HLZ.out; omega
      have i4 : (k : Int) < (cs.length : Int) := by have := HLC.out; omega
      clear hbel hrow hpq hF h2 h3 h4 h5 hkb
      generalize kern (rows.getD k []) xs n = K at *
      generalize rows.getD k [] = r at *
      generalize zs.getD k 0 = z at *
      generalize cs.getD k 0 = y at *
      generalize forceTo rows zs cs n xs k = s at *
      have e1 : IntKind.i64.wrap (y * z) = y * z := IntWalk.i64_in _ (by omega)
      have e2 : IntKind.i64.wrap (y * z * K) = y * z * K := IntWalk.i64_in _ (by omega)
      have e3 : IntKind.i64.wrap (s + y * z * K) = s + y * z * K := IntWalk.i64_in _ (by omega)
      clear h7 h8 hfb
      go_wp2_with fail
      refine wp_region_noPanic ?_
      refine wp_region_held_drew (S := fun w' => w'.cell? ⟨w.heap.size, 0, none⟩ = some (.slice (some ⟨bl, off, none⟩) rows.length c) ∧ w'.cell? ⟨w.heap.size, 1, none⟩ = some (.slice (some ⟨lb, lo, none⟩) zs.length c') ∧ w'.cell? ⟨bl, off + k, none⟩ = some (.slice rp r.length rq) ∧ w'.cell? ⟨lb, lo + k, none⟩ = some (.int .i64 z) ∧ w'.cell? ⟨be, bo + k, none⟩ = some (.int .i64 y)) (by kernel_rfl) ?_ (fun hHeld => ?_)
      · exact ⟨x0_0, x0_1, hc, hlc, hcc⟩
      refine wpAnyH_take (i := 0) (v := ?_) rfl (by kernel_rfl) (by kernel_rfl) (by kernel_rfl) (fun _ _ _ h => h) (Or.inl ⟨by rfl, ?_⟩) (by assumption) ?_
      rotate_left
      · intro w9 hSw; (try dsimp only at hSw); go_simp; try with_reducible rfl
      try simp only [List.getElem_toArray, List.getElem_cons_succ, List.getElem_cons_zero, Act.put, List.setIfInBounds_toArray, List.set_cons_zero, List.set_cons_succ]
      refine wpAnyH_take (i := 1) (v := ?_) rfl (by kernel_rfl) (by kernel_rfl) (by kernel_rfl) (fun _ _ _ h => h) (Or.inl ⟨by rfl, ?_⟩) (by assumption) ?_
      rotate_left
      · intro w9 hSw; (try dsimp only at hSw); go_simp; try with_reducible rfl
      try simp only [List.getElem_toArray, List.getElem_cons_succ, List.getElem_cons_zero, Act.put, List.setIfInBounds_toArray, List.set_cons_zero, List.set_cons_succ]
      refine wpAnyH_take (i := 2) (v := ?_) rfl (by kernel_rfl) (by kernel_rfl) (by kernel_rfl) (fun _ _ _ h => h) (Or.inl ⟨by rfl, ?_⟩) (by assumption) ?_
      rotate_left
      · intro w9 hSw; (try dsimp only at hSw); go_simp; try with_reducible rfl
      try simp only [List.getElem_toArray, List.getElem_cons_succ, List.getElem_cons_zero, Act.put, List.setIfInBounds_toArray, List.set_cons_zero, List.set_cons_succ]
      refine wpAnyH_take (i := 3) (v := ?_) rfl (by kernel_rfl) (by kernel_rfl) (by kernel_rfl) (fun _ _ _ h => h) (Or.inl ⟨by rfl, ?_⟩) (by assumption) ?_
      rotate_left
      · intro w9 hSw; (try dsimp only at hSw); go_simp; try with_reducible rfl
      try simp only [List.getElem_toArray, List.getElem_cons_succ, List.getElem_cons_zero, Act.put, List.setIfInBounds_toArray, List.set_cons_zero, List.set_cons_succ]
      refine wpAnyH_take (i := 4) (v := ?_) rfl (by kernel_rfl) (by kernel_rfl) (by kernel_rfl) (fun _ _ _ h => h) (Or.inl ⟨by rfl, ?_⟩) (by assumption) ?_
      rotate_left
      · intro w9 hSw; (try dsimp only at hSw); go_simp; try with_reducible rfl
      try simp only [List.getElem_toArray, List.getElem_cons_succ, List.getElem_cons_zero, Act.put, List.setIfInBounds_toArray, List.set_cons_zero, List.set_cons_succ]
      refine wpAnyH_take (i := 5) (v := ?_) rfl (by kernel_rfl) (by kernel_rfl) (by kernel_rfl) (fun _ _ _ h => h) (Or.inl ⟨by rfl, ?_⟩) (by assumption) ?_
      rotate_left
      · intro w9 hSw; (try dsimp only at hSw); go_simp; try with_reducible rfl
      try simp only [List.getElem_toArray, List.getElem_cons_succ, List.getElem_cons_zero, Act.put, List.setIfInBounds_toArray, List.set_cons_zero, List.set_cons_succ]
      refine wpAnyH_take (i := 6) (v := ?_) rfl (by kernel_rfl) (by kernel_rfl) (by kernel_rfl) (fun _ _ _ h => h) (Or.inl ⟨by rfl, ?_⟩) (by assumption) ?_
      rotate_left
      · intro w9 hSw; (try dsimp only at hSw); go_simp; try with_reducible rfl
      try simp only [List.getElem_toArray, List.getElem_cons_succ, List.getElem_cons_zero, Act.put, List.setIfInBounds_toArray, List.set_cons_zero, List.set_cons_succ]
      refine wpAnyH_take (i := 7) (v := ?_) rfl (by kernel_rfl) (by kernel_rfl) (by kernel_rfl) (fun _ _ _ h => h) (Or.inl ⟨by rfl, ?_⟩) (by assumption) ?_
      rotate_left
      · intro w9 hSw; (try dsimp only at hSw); go_simp; try with_reducible rfl
      try simp only [List.getElem_toArray, List.getElem_cons_succ, List.getElem_cons_zero, Act.put, List.setIfInBounds_toArray, List.set_cons_zero, List.set_cons_succ]
      refine wpAnyH_take (i := 8) (v := ?_) rfl (by kernel_rfl) (by kernel_rfl) (by kernel_rfl) (fun _ _ _ h => h) (Or.inl ⟨by rfl, ?_⟩) (by assumption) ?_
      rotate_left
      · intro w9 hSw; (try dsimp only at hSw); go_simp; try with_reducible rfl
      try simp only [List.getElem_toArray, List.getElem_cons_succ, List.getElem_cons_zero, Act.put, List.setIfInBounds_toArray, List.set_cons_zero, List.set_cons_succ]
      refine wpAnyH_take (i := 9) (v := ?_) rfl (by kernel_rfl) (by kernel_rfl) (by kernel_rfl) (fun _ _ _ h => h) (Or.inl ⟨by rfl, ?_⟩) (by assumption) ?_
      rotate_left
      · intro w9 hSw; (try dsimp only at hSw); go_simp; try with_reducible rfl
      try simp only [List.getElem_toArray, List.getElem_cons_succ, List.getElem_cons_zero, Act.put, List.setIfInBounds_toArray, List.set_cons_zero, List.set_cons_succ]
      refine wpAnyH_take (i := 10) (v := ?_) rfl (by kernel_rfl) (by kernel_rfl) (by kernel_rfl) (fun _ _ _ h => h) (Or.inl ⟨by rfl, ?_⟩) (by assumption) ?_
      rotate_left
      · intro w9 hSw; (try dsimp only at hSw); go_simp; try with_reducible rfl
      try simp only [List.getElem_toArray, List.getElem_cons_succ, List.getElem_cons_zero, Act.put, List.setIfInBounds_toArray, List.set_cons_zero, List.set_cons_succ]
      refine wpAnyH_take (i := 11) (v := ?_) rfl (by kernel_rfl) (by kernel_rfl) (by kernel_rfl) (fun _ _ _ h => h) (Or.inl ⟨by rfl, ?_⟩) (by assumption) ?_
      rotate_left
      · intro w9 hSw; (try dsimp only at hSw); go_simp; try with_reducible rfl
      try simp only [List.getElem_toArray, List.getElem_cons_succ, List.getElem_cons_zero, Act.put, List.setIfInBounds_toArray, List.set_cons_zero, List.set_cons_succ]
      refine wpAnyH_take (i := 12) (v := ?_) rfl (by kernel_rfl) (by kernel_rfl) (by kernel_rfl) (fun _ _ _ h => h) (Or.inl ⟨by rfl, ?_⟩) (by assumption) ?_
      rotate_left
      · intro w9 hSw; (try dsimp only at hSw); go_simp; try with_reducible rfl
      try simp only [List.getElem_toArray, List.getElem_cons_succ, List.getElem_cons_zero, Act.put, List.setIfInBounds_toArray, List.set_cons_zero, List.set_cons_succ]
      refine wpAnyH_take (i := 13) (v := ?_) rfl (by kernel_rfl) (by kernel_rfl) (by kernel_rfl) (fun _ _ _ h => h) (Or.inl ⟨by rfl, ?_⟩) (by assumption) ?_
      rotate_left
      · intro w9 hSw; (try dsimp only at hSw); go_simp; try with_reducible rfl
      try simp only [List.getElem_toArray, List.getElem_cons_succ, List.getElem_cons_zero, Act.put, List.setIfInBounds_toArray, List.set_cons_zero, List.set_cons_succ]
      refine wpAnyH_ready (rs := [14]) (by kernel_rfl) (by simp) ?_
      refine AllReadyH.cons rfl (fun K hK => ?_) AllReadyH.nil
      clear hHeld
      go_simp
      refine (HCK.out _ (Below.refl _ _).drew).mono ?_
      rintro e' v1 ⟨rfl, hb1⟩
      have HC1 := Lib.hid ((Below.refl wr.heap.size wr).drew.trans hb1)
      have m0 := cell_below HC1.out x0_0 (by omega)
      have m1 := cell_below HC1.out x0_1 (by omega)
      have m2 := cell_below HC1.out hc (by omega)
      have m3 := cell_below HC1.out hlc (by omega)
      have m4 := cell_below HC1.out hcc (by omega)
      clear hb1
      refine hK.out _ _ ?_ (fun hHeld => ?_)
      · exact ⟨m0, m1, m2, m3, m4⟩
      clear hK K
      try simp only [List.getElem_toArray, List.getElem_cons_succ, List.getElem_cons_zero, Act.put, List.setIfInBounds_toArray, List.set_cons_zero, List.set_cons_succ]
      refine wpAnyH_take (i := 15) (v := ?_) rfl (by kernel_rfl) (by kernel_rfl) (by kernel_rfl) (fun _ _ _ h => h) (Or.inl ⟨by rfl, ?_⟩) (by assumption) ?_
      rotate_left
      · intro w9 hSw; (try dsimp only at hSw); go_simp; try with_reducible rfl
      try simp only [List.getElem_toArray, List.getElem_cons_succ, List.getElem_cons_zero, Act.put, List.setIfInBounds_toArray, List.set_cons_zero, List.set_cons_succ]
      refine wpAnyH_take (i := 16) (v := ?_) rfl (by kernel_rfl) (by kernel_rfl) (by kernel_rfl) (fun _ _ _ h => h) (Or.inl ⟨by rfl, ?_⟩) (by assumption) ?_
      rotate_left
      · intro w9 hSw; (try dsimp only at hSw); go_simp; try with_reducible rfl
      try simp only [List.getElem_toArray, List.getElem_cons_succ, List.getElem_cons_zero, Act.put, List.setIfInBounds_toArray, List.set_cons_zero, List.set_cons_succ]
      refine wpAnyH_take (i := 17) (v := ?_) rfl (by kernel_rfl) (by kernel_rfl) (by kernel_rfl) (fun _ _ _ h => h) (Or.inl ⟨by rfl, ?_⟩) (by assumption) ?_
      rotate_left
      · intro w9 hSw; (try dsimp only at hSw); go_simp; try with_reducible rfl
      try simp only [List.getElem_toArray, List.getElem_cons_succ, List.getElem_cons_zero, Act.put, List.setIfInBounds_toArray, List.set_cons_zero, List.set_cons_succ]
      refine wpAnyH_done (by kernel_rfl) ?_ _
      refine NoPanic.normal ?_
      go_wp2_with fail
      go_roundw
      case rel => exact ⟨k + 1, by omega, by go_num, by rw [HT.out], HBl.out.trans (HC1.out.mono hsz)⟩
      case measure => simp [intOf]; omega
    · obtain rfl : k = rows.length := by omega
      have HBl := Lib.hid (HB0.out.trans (hbel.mono (by omega)))
      have i4 : ¬ (rows.length : Int) < (rows.length : Int) := by have := HLC.out; omega
      clear hbel
      go_wp2_with fail
      go_ret
      exact ⟨rfl, HBl.out⟩
end Go.Proofs.Ytkbcofgigfnfaaa.force
