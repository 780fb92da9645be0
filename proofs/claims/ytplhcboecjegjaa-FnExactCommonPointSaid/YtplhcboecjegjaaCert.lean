/- The walks of the test of a certificate: the model's and the program's. -/
import Derived.Test.YtplhcboecjegjaaSums
import Derived.Test.YtplhcboecjegjaaSame
import Derived.Test.YtplhcboecjegjaaMost
import Derived.Test.YtplhcboecjegjaaEquals
namespace Go.Proofs.Ytplhcboecjegjaa.cert
open Go.RowKit own own1 pp nums fill range samplest samplesv sums same most
set_option linter.unusedVariables false
set_option linter.unusedSimpArgs false
attribute [local go_sem ↓] Go.wp_at_zero Go.wp_at_succ

/-- Whether a list has a number greater than 0, and the greatest of its first k numbers and 0. -/
def posB (ls : List Int) : Bool := ls.any fun n => decide (0 < n)
def maxTo (ls : List Int) : Nat → Int
  | 0 => 0
  | k + 1 => max (maxTo ls k) (ls.getD k 0)
theorem max_bd {ls : List Int} (k : Nat) (h : ∀ j, j < k → 0 ≤ ls.getD j 0 ∧ ls.getD j 0 ≤ 1000000000) : 0 ≤ maxTo ls k ∧ maxTo ls k ≤ 1000000000 := by
  induction k with
  | zero => simp [maxTo]
  | succ k ih =>
    have h1 := ih fun j hj => h j (by omega)
    have h2 := h k (by omega)
    unfold maxTo
    omega
theorem max_pos (ls : List Int) (k : Nat) : 0 < maxTo ls k ↔ ∃ j, j < k ∧ 0 < ls.getD j 0 := by
  induction k with
  | zero => simp [maxTo]
  | succ k ih =>
    unfold maxTo
    constructor
    · intro h
      by_cases h1 : 0 < maxTo ls k
      · obtain ⟨j, hj, e⟩ := ih.1 h1
        exact ⟨j, by omega, e⟩
      · exact ⟨k, by omega, by omega⟩
    · rintro ⟨j, hj, e⟩
      by_cases h1 : j < k
      · have := ih.2 ⟨j, h1, e⟩
        omega
      · obtain rfl : j = k := by omega
        omega
theorem pos_iff (ls : List Int) : posB ls = decide (0 < maxTo ls ls.length) := by
  rw [Bool.eq_iff_iff, decide_eq_true_eq, max_pos]
  unfold posB
  rw [List.any_eq_true]
  constructor
  · rintro ⟨n, hn, e⟩
    obtain ⟨i, hi, rfl⟩ := List.getElem_of_mem hn
    exact ⟨i, hi, by rw [List.getD_eq_getElem?_getD, List.getElem?_eq_getElem hi]; simpa using e⟩
  · rintro ⟨j, hj, e⟩
    exact ⟨ls.getD j 0, getD_mem _ _ _ hj, by simpa using e⟩
def D (rows : List (List Int)) : Nat := (rows.getD 0 []).length
/-- What a certificate is. -/
def ceB (rows : List (List Int)) (zs ls : List Int) : Bool := numsR 0 1000000000 ls && (decide (ls.length = rows.length) && (posB ls && decide (sumsTo rows zs ls 1 (D rows) rows.length = sumsTo rows zs ls (-1) (D rows) rows.length)))
set_option maxRecDepth 100000 in
set_option maxHeartbeats 4000000 in
theorem spec_bad (a : Option Addr) (rows : List (List Int)) (c : Nat) (a' : Option Addr) (zs : List Int) (c' : Nat) (p : Option Addr) (ls : List Int) (q : Nat) (w : World) (hr : grid.Reads w a rows) (hz : ints.Reads .i64 w a' zs) (hq : ints.Reads .i64 w p ls) (hw : ls.length ≤ 1048576) (h : Hid (numsR 0 1000000000 ls = false)) :
    Calls Try.prog 113 #[.agg #[.slice a rows.length c, .slice a' zs.length c'], .slice p ls.length q] w (RetB false w) := by
  have Hhr := Lib.hid hr
  have Hhz := Lib.hid hz
  have Hhq := Lib.hid hq
  clear hr hz hq
  go_enter Try.func113, Try.ntmps113
  go_wp2_with fail
  have x0_0 : (w.alloc (.cells #[.slice a rows.length c, .slice a' zs.length c'] 55)).cell? ⟨w.heap.size, 0, none⟩ = some (.slice a rows.length c) := cell_new _ _ _ (by simp) rfl
  have x0_1 : (w.alloc (.cells #[.slice a rows.length c, .slice a' zs.length c'] 55)).cell? ⟨w.heap.size, 1, none⟩ = some (.slice a' zs.length c') := cell_new _ _ _ (by simp) rfl
  have HB0 := Lib.hid (below_alloc w (.cells #[.slice a rows.length c, .slice a' zs.length c'] 55))
  have s0 : w.heap.size + 1 ≤ (w.alloc (.cells #[.slice a rows.length c, .slice a' zs.length c'] 55)).heap.size := by simp
  generalize hw : (w.alloc (.cells #[.slice a rows.length c, .slice a' zs.length c'] 55)) = w0 at *
  clear hw
  have n0_0 : w.heap.size < w0.heap.size := by omega
  have HX := Lib.hid (show w0.cell? ⟨w.heap.size, 0, none⟩ = some (.slice a rows.length c) ∧ w0.cell? ⟨w.heap.size, 1, none⟩ = some (.slice a' zs.length c') from ⟨x0_0, x0_1⟩)
  go_loopw [5, 6] (fun x i wr => ∃ k : Nat, k ≤ ls.length ∧ i = .int .i64 k ∧ x = .int .i64 (maxTo ls k) ∧ Hid (∀ j, j < k → inR 0 1000000000 (ls.getD j 0) = true) ∧ Below w0.heap.size w0 wr) (fun _ i _ => ls.length - (intOf i).toNat)
  case atStart => exact ⟨0, Nat.zero_le _, rfl, rfl, fun j hj => by omega, Below.refl _ _⟩
  case round =>
    obtain ⟨k, hk, rfl, rfl, hj, hbel⟩ := hrel
    have HBl := Lib.hid hbel
    by_cases hlt : k < ls.length
    · obtain ⟨qb, qo, hqb, hql, hqc⟩ := (Hhq.out.below HB0.out).at hlt
      subst hqb
      replace hqc := cell_below hbel hqc (by omega)
      clear hbel
      have i1 : (0 : Int) ≤ (k : Int) := by omega
      have i2 : (k : Int) < (ls.length : Int) := by omega
      cases hx : inR 0 1000000000 (ls.getD k 0)
      · have HX2 := Lib.hid hx
        unfold inR at HX2
        clear hx hj
        generalize ls.getD k 0 = x at *
        generalize maxTo ls k = mm at *
        go_wp2_with fail
        refine (in_any _ _ _ _ false HX2).mono ?_
        rintro e w' ⟨rfl, rfl⟩
        go_wp2_with fail
        go_ret
        exact ⟨rfl, HB0.out.trans (HBl.out.mono (by omega))⟩
      have HJ : Hid (∀ j, j < k + 1 → inR 0 1000000000 (ls.getD j 0) = true) := fun j h => by
        by_cases e : j = k
        · rw [e]; exact hx
        · exact hj.out j (by omega)
      have HX2 := Lib.hid hx
      unfold inR at HX2
      have HE := Lib.hid (show maxTo ls (k + 1) = max (maxTo ls k) (ls.getD k 0) from rfl)
      clear hx hj
      generalize ls.getD k 0 = x at *
      generalize maxTo ls k = mm at *
      go_wp2_with fail
      refine (in_any _ _ _ _ true HX2).mono ?_
      rintro e w' ⟨rfl, rfl⟩
      go_wp2_with fail
      refine (most_any _ _ _).mono ?_
      rintro e w' ⟨rfl, rfl⟩
      go_wp2_with fail
      go_roundw
      case rel => exact ⟨k + 1, by omega, by go_num, by rw [HE.out], HJ, HBl.out⟩
      case measure => simp [intOf]; omega
    · have hkk : k = ls.length := by omega
      exfalso
      have := h.out
      rw [show numsR 0 1000000000 ls = true from all_true _ 0 ls (fun j hj' => hj.out j (by omega))] at this
      cases this
set_option maxRecDepth 100000 in
set_option maxHeartbeats 4000000 in
theorem spec_len (a : Option Addr) (rows : List (List Int)) (c : Nat) (a' : Option Addr) (zs : List Int) (c' : Nat) (p : Option Addr) (ls : List Int) (q : Nat) (w : World) (hr : grid.Reads w a rows) (hz : ints.Reads .i64 w a' zs) (hq : ints.Reads .i64 w p ls) (hw : ls.length ≤ 1048576) (h : Hid (numsR 0 1000000000 ls = true)) (hl : ls.length ≠ rows.length) :
    Calls Try.prog 113 #[.agg #[.slice a rows.length c, .slice a' zs.length c'], .slice p ls.length q] w (RetB false w) := by
  have g0 : ((ls.length : Int) == (rows.length : Int)) = false := by rw [beq_eq_false_iff_ne]; omega
  clear hl
  have Hhr := Lib.hid hr
  have Hhz := Lib.hid hz
  have Hhq := Lib.hid hq
  clear hr hz hq
  go_enter Try.func113, Try.ntmps113
  go_wp2_with fail
  have x0_0 : (w.alloc (.cells #[.slice a rows.length c, .slice a' zs.length c'] 55)).cell? ⟨w.heap.size, 0, none⟩ = some (.slice a rows.length c) := cell_new _ _ _ (by simp) rfl
  have x0_1 : (w.alloc (.cells #[.slice a rows.length c, .slice a' zs.length c'] 55)).cell? ⟨w.heap.size, 1, none⟩ = some (.slice a' zs.length c') := cell_new _ _ _ (by simp) rfl
  have HB0 := Lib.hid (below_alloc w (.cells #[.slice a rows.length c, .slice a' zs.length c'] 55))
  have s0 : w.heap.size + 1 ≤ (w.alloc (.cells #[.slice a rows.length c, .slice a' zs.length c'] 55)).heap.size := by simp
  generalize hw : (w.alloc (.cells #[.slice a rows.length c, .slice a' zs.length c'] 55)) = w0 at *
  clear hw
  have n0_0 : w.heap.size < w0.heap.size := by omega
  have HX := Lib.hid (show w0.cell? ⟨w.heap.size, 0, none⟩ = some (.slice a rows.length c) ∧ w0.cell? ⟨w.heap.size, 1, none⟩ = some (.slice a' zs.length c') from ⟨x0_0, x0_1⟩)
  go_loopw [5, 6] (fun x i wr => ∃ k : Nat, k ≤ ls.length ∧ i = .int .i64 k ∧ x = .int .i64 (maxTo ls k) ∧ Hid (∀ j, j < k → inR 0 1000000000 (ls.getD j 0) = true) ∧ Below w0.heap.size w0 wr) (fun _ i _ => ls.length - (intOf i).toNat)
  case atStart => exact ⟨0, Nat.zero_le _, rfl, rfl, fun j hj => by omega, Below.refl _ _⟩
  case round =>
    obtain ⟨k, hk, rfl, rfl, hj, hbel⟩ := hrel
    have HBl := Lib.hid hbel
    by_cases hlt : k < ls.length
    · obtain ⟨qb, qo, hqb, hql, hqc⟩ := (Hhq.out.below HB0.out).at hlt
      subst hqb
      replace hqc := cell_below hbel hqc (by omega)
      clear hbel
      have i1 : (0 : Int) ≤ (k : Int) := by omega
      have i2 : (k : Int) < (ls.length : Int) := by omega
      have hx : inR 0 1000000000 (ls.getD k 0) = true := (inR_iff _ _ _).2 (numsR_at h.out k hlt)
      have HJ : Hid (∀ j, j < k + 1 → inR 0 1000000000 (ls.getD j 0) = true) := fun j h => by
        by_cases e : j = k
        · rw [e]; exact hx
        · exact hj.out j (by omega)
      have HX2 := Lib.hid hx
      unfold inR at HX2
      have HE := Lib.hid (show maxTo ls (k + 1) = max (maxTo ls k) (ls.getD k 0) from rfl)
      clear hx hj
      generalize ls.getD k 0 = x at *
      generalize maxTo ls k = mm at *
      go_wp2_with fail
      refine (in_any _ _ _ _ true HX2).mono ?_
      rintro e w' ⟨rfl, rfl⟩
      go_wp2_with fail
      refine (most_any _ _ _).mono ?_
      rintro e w' ⟨rfl, rfl⟩
      go_wp2_with fail
      go_roundw
      case rel => exact ⟨k + 1, by omega, by go_num, by rw [HE.out], HJ, HBl.out⟩
      case measure => simp [intOf]; omega
    · have hkk : k = ls.length := by omega
      subst hkk
      clear hj
      have x0_0 := cell_below hbel HX.out.1 (by omega)
      have x0_1 := cell_below hbel HX.out.2 (by omega)
      clear hbel
      go_wp2_with fail
      refine wp_region_noPanic ?_
      refine wp_region_held_drew (S := fun w' => w'.cell? ⟨w.heap.size, 0, none⟩ = some (.slice a rows.length c) ∧ w'.cell? ⟨w.heap.size, 1, none⟩ = some (.slice a' zs.length c') ∧ Below w0.heap.size w0 w') (by kernel_rfl) ?_ (fun hHeld => ?_)
      · exact ⟨x0_0, x0_1, HBl.out.drew⟩
      refine wpAnyH_take (i := 0) (v := ?_) rfl (by kernel_rfl) (by kernel_rfl) (by kernel_rfl) (fun _ _ _ h => h) (Or.inl ⟨by rfl, ?_⟩) (by assumption) ?_
      rotate_left
      · intro w9 hSw; (try dsimp only at hSw); go_simp; try with_reducible rfl
      try simp only [List.getElem_toArray, List.getElem_cons_succ, List.getElem_cons_zero, Act.put, List.setIfInBounds_toArray, List.set_cons_zero, List.set_cons_succ]
      refine wpAnyH_take (i := 1) (v := ?_) rfl (by kernel_rfl) (by kernel_rfl) (by kernel_rfl) (fun _ _ _ h => h) (Or.inl ⟨by rfl, ?_⟩) (by assumption) ?_
      rotate_left
      · intro w9 hSw; (try dsimp only at hSw); go_simp; try with_reducible rfl
      try simp only [List.getElem_toArray, List.getElem_cons_succ, List.getElem_cons_zero, Act.put, List.setIfInBounds_toArray, List.set_cons_zero, List.set_cons_succ]
      refine wpAnyH_take (i := 2) (v := ?_) rfl (by kernel_rfl) (by kernel_rfl) (by kernel_rfl) (fun _ _ _ h => h) (Or.inl ⟨by rfl, ?_⟩) (by assumption) ?_
      rotate_left
      · intro w9 hSw; (try dsimp only at hSw); go_simp; try with_reducible rfl
      try simp only [List.getElem_toArray, List.getElem_cons_succ, List.getElem_cons_zero, Act.put, List.setIfInBounds_toArray, List.set_cons_zero, List.set_cons_succ]
      refine wpAnyH_take (i := 3) (v := ?_) rfl (by kernel_rfl) (by kernel_rfl) (by kernel_rfl) (fun _ _ _ h => h) (Or.inl ⟨by rfl, ?_⟩) (by assumption) ?_
      rotate_left
      · intro w9 hSw; (try dsimp only at hSw); go_simp; try with_reducible rfl
      try simp only [List.getElem_toArray, List.getElem_cons_succ, List.getElem_cons_zero, Act.put, List.setIfInBounds_toArray, List.set_cons_zero, List.set_cons_succ]
      refine wpAnyH_take (i := 4) (v := ?_) rfl (by kernel_rfl) (by kernel_rfl) (by kernel_rfl) (fun _ _ _ h => h) (Or.inl ⟨by rfl, ?_⟩) (by assumption) ?_
      rotate_left
      · intro w9 hSw; (try dsimp only at hSw); go_simp; try with_reducible rfl
      try simp only [List.getElem_toArray, List.getElem_cons_succ, List.getElem_cons_zero, Act.put, List.setIfInBounds_toArray, List.set_cons_zero, List.set_cons_succ]
      refine wpAnyH_take (i := 5) (v := ?_) rfl (by kernel_rfl) (by kernel_rfl) (by kernel_rfl) (fun _ _ _ h => h) (Or.inl ⟨by rfl, ?_⟩) (by assumption) ?_
      rotate_left
      · intro w9 hSw; (try dsimp only at hSw); go_simp; try with_reducible rfl
      try simp only [List.getElem_toArray, List.getElem_cons_succ, List.getElem_cons_zero, Act.put, List.setIfInBounds_toArray, List.set_cons_zero, List.set_cons_succ]
      refine wpAnyH_take (i := 6) (v := ?_) rfl (by kernel_rfl) (by kernel_rfl) (by kernel_rfl) (fun _ _ _ h => h) (Or.inl ⟨by rfl, ?_⟩) (by assumption) ?_
      rotate_left
      · intro w9 hSw; (try dsimp only at hSw); go_simp; try with_reducible rfl
      try simp only [List.getElem_toArray, List.getElem_cons_succ, List.getElem_cons_zero, Act.put, List.setIfInBounds_toArray, List.set_cons_zero, List.set_cons_succ]
      refine wpAnyH_take (i := 7) (v := undef) rfl (by kernel_rfl) (by kernel_rfl) (by kernel_rfl) (fun _ _ _ h => h) (Or.inr ⟨by rfl, rfl⟩) (by assumption) ?_
      try simp only [List.getElem_toArray, List.getElem_cons_succ, List.getElem_cons_zero, Act.put, List.setIfInBounds_toArray, List.set_cons_zero, List.set_cons_succ]
      refine wpAnyH_take (i := 8) (v := undef) rfl (by kernel_rfl) (by kernel_rfl) (by kernel_rfl) (fun _ _ _ h => h) (Or.inr ⟨by rfl, rfl⟩) (by assumption) ?_
      try simp only [List.getElem_toArray, List.getElem_cons_succ, List.getElem_cons_zero, Act.put, List.setIfInBounds_toArray, List.set_cons_zero, List.set_cons_succ]
      refine wpAnyH_take (i := 9) (v := ?_) rfl (by kernel_rfl) (by kernel_rfl) (by kernel_rfl) (fun _ _ _ h => h) (Or.inl ⟨by rfl, ?_⟩) (by assumption) ?_
      rotate_left
      · intro w9 hSw; (try dsimp only at hSw); go_simp; try with_reducible rfl
      try simp only [List.getElem_toArray, List.getElem_cons_succ, List.getElem_cons_zero, Act.put, List.setIfInBounds_toArray, List.set_cons_zero, List.set_cons_succ]
      refine wpAnyH_take (i := 10) (v := ?_) rfl (by kernel_rfl) (by kernel_rfl) (by kernel_rfl) (fun _ _ _ h => h) (Or.inl ⟨by rfl, ?_⟩) (by assumption) ?_
      rotate_left
      · intro w9 hSw; (try dsimp only at hSw); go_simp; try with_reducible rfl
      try simp only [List.getElem_toArray, List.getElem_cons_succ, List.getElem_cons_zero, Act.put, List.setIfInBounds_toArray, List.set_cons_zero, List.set_cons_succ]
      refine wpAnyH_take (i := 11) (v := undef) rfl (by kernel_rfl) (by kernel_rfl) (by kernel_rfl) (fun _ _ _ h => h) (Or.inr ⟨by rfl, rfl⟩) (by assumption) ?_
      try simp only [List.getElem_toArray, List.getElem_cons_succ, List.getElem_cons_zero, Act.put, List.setIfInBounds_toArray, List.set_cons_zero, List.set_cons_succ]
      refine wpAnyH_take (i := 12) (v := undef) rfl (by kernel_rfl) (by kernel_rfl) (by kernel_rfl) (fun _ _ _ h => h) (Or.inr ⟨by rfl, rfl⟩) (by assumption) ?_
      try simp only [List.getElem_toArray, List.getElem_cons_succ, List.getElem_cons_zero, Act.put, List.setIfInBounds_toArray, List.set_cons_zero, List.set_cons_succ]
      refine wpAnyH_take (i := 13) (v := undef) rfl (by kernel_rfl) (by kernel_rfl) (by kernel_rfl) (fun _ _ _ h => h) (Or.inr ⟨by rfl, rfl⟩) (by assumption) ?_
      try simp only [List.getElem_toArray, List.getElem_cons_succ, List.getElem_cons_zero, Act.put, List.setIfInBounds_toArray, List.set_cons_zero, List.set_cons_succ]
      refine wpAnyH_take (i := 14) (v := undef) rfl (by kernel_rfl) (by kernel_rfl) (by kernel_rfl) (fun _ _ _ h => h) (Or.inr ⟨by rfl, rfl⟩) (by assumption) ?_
      try simp only [List.getElem_toArray, List.getElem_cons_succ, List.getElem_cons_zero, Act.put, List.setIfInBounds_toArray, List.set_cons_zero, List.set_cons_succ]
      refine wpAnyH_take (i := 15) (v := undef) rfl (by kernel_rfl) (by kernel_rfl) (by kernel_rfl) (fun _ _ _ h => h) (Or.inr ⟨by rfl, rfl⟩) (by assumption) ?_
      try simp only [List.getElem_toArray, List.getElem_cons_succ, List.getElem_cons_zero, Act.put, List.setIfInBounds_toArray, List.set_cons_zero, List.set_cons_succ]
      refine wpAnyH_take (i := 16) (v := undef) rfl (by kernel_rfl) (by kernel_rfl) (by kernel_rfl) (fun _ _ _ h => h) (Or.inr ⟨by rfl, rfl⟩) (by assumption) ?_
      try simp only [List.getElem_toArray, List.getElem_cons_succ, List.getElem_cons_zero, Act.put, List.setIfInBounds_toArray, List.set_cons_zero, List.set_cons_succ]
      refine wpAnyH_take (i := 17) (v := undef) rfl (by kernel_rfl) (by kernel_rfl) (by kernel_rfl) (fun _ _ _ h => h) (Or.inr ⟨by rfl, rfl⟩) (by assumption) ?_
      try simp only [List.getElem_toArray, List.getElem_cons_succ, List.getElem_cons_zero, Act.put, List.setIfInBounds_toArray, List.set_cons_zero, List.set_cons_succ]
      refine wpAnyH_take (i := 18) (v := ?_) rfl (by kernel_rfl) (by kernel_rfl) (by kernel_rfl) (fun _ _ _ h => h) (Or.inl ⟨by rfl, ?_⟩) (by assumption) ?_
      rotate_left
      · intro w9 hSw; (try dsimp only at hSw); go_simp; try with_reducible rfl
      try simp only [List.getElem_toArray, List.getElem_cons_succ, List.getElem_cons_zero, Act.put, List.setIfInBounds_toArray, List.set_cons_zero, List.set_cons_succ]
      refine wpAnyH_take (i := 19) (v := ?_) rfl (by kernel_rfl) (by kernel_rfl) (by kernel_rfl) (fun _ _ _ h => h) (Or.inl ⟨by rfl, ?_⟩) (by assumption) ?_
      rotate_left
      · intro w9 hSw; (try dsimp only at hSw); go_simp; try with_reducible rfl
      try simp only [List.getElem_toArray, List.getElem_cons_succ, List.getElem_cons_zero, Act.put, List.setIfInBounds_toArray, List.set_cons_zero, List.set_cons_succ]
      refine wpAnyH_done (by kernel_rfl) ?_ _
      refine NoPanic.normal ?_
      have HBE := Lib.hid (HB0.out.trans (hHeld.2.2.mono (by omega)))
      clear hHeld
      go_wp2_with fail
      go_ret
      exact ⟨rfl, HBE.out⟩
set_option maxRecDepth 100000 in
set_option maxHeartbeats 4000000 in
theorem spec_zero (a : Option Addr) (rows : List (List Int)) (c : Nat) (a' : Option Addr) (zs : List Int) (c' : Nat) (p : Option Addr) (ls : List Int) (q : Nat) (w : World) (hr : grid.Reads w a rows) (hz : ints.Reads .i64 w a' zs) (hq : ints.Reads .i64 w p ls) (hw : ls.length ≤ 1048576) (h : Hid (numsR 0 1000000000 ls = true)) (hl : ls.length = rows.length) (hp : posB ls = false) :
    Calls Try.prog 113 #[.agg #[.slice a rows.length c, .slice a' zs.length c'], .slice p ls.length q] w (RetB false w) := by
  have g0 : ((ls.length : Int) == (rows.length : Int)) = true := by rw [beq_iff_eq]; omega
  have gp : decide (0 < maxTo ls ls.length) = false := by rw [← pos_iff]; exact hp
  have HLL := Lib.hid hl
  clear hl hp
  have Hhr := Lib.hid hr
  have Hhz := Lib.hid hz
  have Hhq := Lib.hid hq
  clear hr hz hq
  go_enter Try.func113, Try.ntmps113
  go_wp2_with fail
  have x0_0 : (w.alloc (.cells #[.slice a rows.length c, .slice a' zs.length c'] 55)).cell? ⟨w.heap.size, 0, none⟩ = some (.slice a rows.length c) := cell_new _ _ _ (by simp) rfl
  have x0_1 : (w.alloc (.cells #[.slice a rows.length c, .slice a' zs.length c'] 55)).cell? ⟨w.heap.size, 1, none⟩ = some (.slice a' zs.length c') := cell_new _ _ _ (by simp) rfl
  have HB0 := Lib.hid (below_alloc w (.cells #[.slice a rows.length c, .slice a' zs.length c'] 55))
  have s0 : w.heap.size + 1 ≤ (w.alloc (.cells #[.slice a rows.length c, .slice a' zs.length c'] 55)).heap.size := by simp
  generalize hw : (w.alloc (.cells #[.slice a rows.length c, .slice a' zs.length c'] 55)) = w0 at *
  clear hw
  have n0_0 : w.heap.size < w0.heap.size := by omega
  have HX := Lib.hid (show w0.cell? ⟨w.heap.size, 0, none⟩ = some (.slice a rows.length c) ∧ w0.cell? ⟨w.heap.size, 1, none⟩ = some (.slice a' zs.length c') from ⟨x0_0, x0_1⟩)
  go_loopw [5, 6] (fun x i wr => ∃ k : Nat, k ≤ ls.length ∧ i = .int .i64 k ∧ x = .int .i64 (maxTo ls k) ∧ Hid (∀ j, j < k → inR 0 1000000000 (ls.getD j 0) = true) ∧ Below w0.heap.size w0 wr) (fun _ i _ => ls.length - (intOf i).toNat)
  case atStart => exact ⟨0, Nat.zero_le _, rfl, rfl, fun j hj => by omega, Below.refl _ _⟩
  case round =>
    obtain ⟨k, hk, rfl, rfl, hj, hbel⟩ := hrel
    have HBl := Lib.hid hbel
    by_cases hlt : k < ls.length
    · obtain ⟨qb, qo, hqb, hql, hqc⟩ := (Hhq.out.below HB0.out).at hlt
      subst hqb
      replace hqc := cell_below hbel hqc (by omega)
      clear hbel
      have i1 : (0 : Int) ≤ (k : Int) := by omega
      have i2 : (k : Int) < (ls.length : Int) := by omega
      have hx : inR 0 1000000000 (ls.getD k 0) = true := (inR_iff _ _ _).2 (numsR_at h.out k hlt)
      have HJ : Hid (∀ j, j < k + 1 → inR 0 1000000000 (ls.getD j 0) = true) := fun j h => by
        by_cases e : j = k
        · rw [e]; exact hx
        · exact hj.out j (by omega)
      have HX2 := Lib.hid hx
      unfold inR at HX2
      have HE := Lib.hid (show maxTo ls (k + 1) = max (maxTo ls k) (ls.getD k 0) from rfl)
      clear hx hj
      generalize ls.getD k 0 = x at *
      generalize maxTo ls k = mm at *
      go_wp2_with fail
      refine (in_any _ _ _ _ true HX2).mono ?_
      rintro e w' ⟨rfl, rfl⟩
      go_wp2_with fail
      refine (most_any _ _ _).mono ?_
      rintro e w' ⟨rfl, rfl⟩
      go_wp2_with fail
      go_roundw
      case rel => exact ⟨k + 1, by omega, by go_num, by rw [HE.out], HJ, HBl.out⟩
      case measure => simp [intOf]; omega
    · have hkk : k = ls.length := by omega
      subst hkk
      generalize maxTo ls ls.length = mm at *
      clear hj
      have x0_0 := cell_below hbel HX.out.1 (by omega)
      have x0_1 := cell_below hbel HX.out.2 (by omega)
      clear hbel
      go_wp2_with fail
      refine wp_region_noPanic ?_
      refine wp_region_held_drew (S := fun w' => w'.cell? ⟨w.heap.size, 0, none⟩ = some (.slice a rows.length c) ∧ w'.cell? ⟨w.heap.size, 1, none⟩ = some (.slice a' zs.length c') ∧ Below w0.heap.size w0 w') (by kernel_rfl) ?_ (fun hHeld => ?_)
      · exact ⟨x0_0, x0_1, HBl.out.drew⟩
      refine wpAnyH_take (i := 0) (v := ?_) rfl (by kernel_rfl) (by kernel_rfl) (by kernel_rfl) (fun _ _ _ h => h) (Or.inl ⟨by rfl, ?_⟩) (by assumption) ?_
      rotate_left
      · intro w9 hSw; (try dsimp only at hSw); go_simp; try with_reducible rfl
      try simp only [List.getElem_toArray, List.getElem_cons_succ, List.getElem_cons_zero, Act.put, List.setIfInBounds_toArray, List.set_cons_zero, List.set_cons_succ]
      refine wpAnyH_take (i := 1) (v := ?_) rfl (by kernel_rfl) (by kernel_rfl) (by kernel_rfl) (fun _ _ _ h => h) (Or.inl ⟨by rfl, ?_⟩) (by assumption) ?_
      rotate_left
      · intro w9 hSw; (try dsimp only at hSw); go_simp; try with_reducible rfl
      try simp only [List.getElem_toArray, List.getElem_cons_succ, List.getElem_cons_zero, Act.put, List.setIfInBounds_toArray, List.set_cons_zero, List.set_cons_succ]
      refine wpAnyH_take (i := 2) (v := ?_) rfl (by kernel_rfl) (by kernel_rfl) (by kernel_rfl) (fun _ _ _ h => h) (Or.inl ⟨by rfl, ?_⟩) (by assumption) ?_
      rotate_left
      · intro w9 hSw; (try dsimp only at hSw); go_simp; try with_reducible rfl
      try simp only [List.getElem_toArray, List.getElem_cons_succ, List.getElem_cons_zero, Act.put, List.setIfInBounds_toArray, List.set_cons_zero, List.set_cons_succ]
      refine wpAnyH_take (i := 3) (v := ?_) rfl (by kernel_rfl) (by kernel_rfl) (by kernel_rfl) (fun _ _ _ h => h) (Or.inl ⟨by rfl, ?_⟩) (by assumption) ?_
      rotate_left
      · intro w9 hSw; (try dsimp only at hSw); go_simp; try with_reducible rfl
      try simp only [List.getElem_toArray, List.getElem_cons_succ, List.getElem_cons_zero, Act.put, List.setIfInBounds_toArray, List.set_cons_zero, List.set_cons_succ]
      refine wpAnyH_take (i := 4) (v := ?_) rfl (by kernel_rfl) (by kernel_rfl) (by kernel_rfl) (fun _ _ _ h => h) (Or.inl ⟨by rfl, ?_⟩) (by assumption) ?_
      rotate_left
      · intro w9 hSw; (try dsimp only at hSw); go_simp; try with_reducible rfl
      try simp only [List.getElem_toArray, List.getElem_cons_succ, List.getElem_cons_zero, Act.put, List.setIfInBounds_toArray, List.set_cons_zero, List.set_cons_succ]
      refine wpAnyH_take (i := 5) (v := ?_) rfl (by kernel_rfl) (by kernel_rfl) (by kernel_rfl) (fun _ _ _ h => h) (Or.inl ⟨by rfl, ?_⟩) (by assumption) ?_
      rotate_left
      · intro w9 hSw; (try dsimp only at hSw); go_simp; try with_reducible rfl
      try simp only [List.getElem_toArray, List.getElem_cons_succ, List.getElem_cons_zero, Act.put, List.setIfInBounds_toArray, List.set_cons_zero, List.set_cons_succ]
      refine wpAnyH_take (i := 6) (v := ?_) rfl (by kernel_rfl) (by kernel_rfl) (by kernel_rfl) (fun _ _ _ h => h) (Or.inl ⟨by rfl, ?_⟩) (by assumption) ?_
      rotate_left
      · intro w9 hSw; (try dsimp only at hSw); go_simp; try with_reducible rfl
      try simp only [List.getElem_toArray, List.getElem_cons_succ, List.getElem_cons_zero, Act.put, List.setIfInBounds_toArray, List.set_cons_zero, List.set_cons_succ]
      refine wpAnyH_take (i := 7) (v := ?_) rfl (by kernel_rfl) (by kernel_rfl) (by kernel_rfl) (fun _ _ _ h => h) (Or.inl ⟨by rfl, ?_⟩) (by assumption) ?_
      rotate_left
      · intro w9 hSw; (try dsimp only at hSw); go_simp; try with_reducible rfl
      try simp only [List.getElem_toArray, List.getElem_cons_succ, List.getElem_cons_zero, Act.put, List.setIfInBounds_toArray, List.set_cons_zero, List.set_cons_succ]
      refine wpAnyH_take (i := 8) (v := ?_) rfl (by kernel_rfl) (by kernel_rfl) (by kernel_rfl) (fun _ _ _ h => h) (Or.inl ⟨by rfl, ?_⟩) (by assumption) ?_
      rotate_left
      · intro w9 hSw; (try dsimp only at hSw); go_simp; try with_reducible rfl
      try simp only [List.getElem_toArray, List.getElem_cons_succ, List.getElem_cons_zero, Act.put, List.setIfInBounds_toArray, List.set_cons_zero, List.set_cons_succ]
      refine wpAnyH_take (i := 9) (v := ?_) rfl (by kernel_rfl) (by kernel_rfl) (by kernel_rfl) (fun _ _ _ h => h) (Or.inl ⟨by rfl, ?_⟩) (by assumption) ?_
      rotate_left
      · intro w9 hSw; (try dsimp only at hSw); go_simp; try with_reducible rfl
      try simp only [List.getElem_toArray, List.getElem_cons_succ, List.getElem_cons_zero, Act.put, List.setIfInBounds_toArray, List.set_cons_zero, List.set_cons_succ]
      refine wpAnyH_take (i := 10) (v := ?_) rfl (by kernel_rfl) (by kernel_rfl) (by kernel_rfl) (fun _ _ _ h => h) (Or.inl ⟨by rfl, ?_⟩) (by assumption) ?_
      rotate_left
      · intro w9 hSw; (try dsimp only at hSw); go_simp; try with_reducible rfl
      try simp only [List.getElem_toArray, List.getElem_cons_succ, List.getElem_cons_zero, Act.put, List.setIfInBounds_toArray, List.set_cons_zero, List.set_cons_succ]
      refine wpAnyH_take (i := 11) (v := undef) rfl (by kernel_rfl) (by kernel_rfl) (by kernel_rfl) (fun _ _ _ h => h) (Or.inr ⟨by rfl, rfl⟩) (by assumption) ?_
      try simp only [List.getElem_toArray, List.getElem_cons_succ, List.getElem_cons_zero, Act.put, List.setIfInBounds_toArray, List.set_cons_zero, List.set_cons_succ]
      refine wpAnyH_take (i := 12) (v := undef) rfl (by kernel_rfl) (by kernel_rfl) (by kernel_rfl) (fun _ _ _ h => h) (Or.inr ⟨by rfl, rfl⟩) (by assumption) ?_
      try simp only [List.getElem_toArray, List.getElem_cons_succ, List.getElem_cons_zero, Act.put, List.setIfInBounds_toArray, List.set_cons_zero, List.set_cons_succ]
      refine wpAnyH_take (i := 13) (v := undef) rfl (by kernel_rfl) (by kernel_rfl) (by kernel_rfl) (fun _ _ _ h => h) (Or.inr ⟨by rfl, rfl⟩) (by assumption) ?_
      try simp only [List.getElem_toArray, List.getElem_cons_succ, List.getElem_cons_zero, Act.put, List.setIfInBounds_toArray, List.set_cons_zero, List.set_cons_succ]
      refine wpAnyH_take (i := 14) (v := undef) rfl (by kernel_rfl) (by kernel_rfl) (by kernel_rfl) (fun _ _ _ h => h) (Or.inr ⟨by rfl, rfl⟩) (by assumption) ?_
      try simp only [List.getElem_toArray, List.getElem_cons_succ, List.getElem_cons_zero, Act.put, List.setIfInBounds_toArray, List.set_cons_zero, List.set_cons_succ]
      refine wpAnyH_take (i := 15) (v := undef) rfl (by kernel_rfl) (by kernel_rfl) (by kernel_rfl) (fun _ _ _ h => h) (Or.inr ⟨by rfl, rfl⟩) (by assumption) ?_
      try simp only [List.getElem_toArray, List.getElem_cons_succ, List.getElem_cons_zero, Act.put, List.setIfInBounds_toArray, List.set_cons_zero, List.set_cons_succ]
      refine wpAnyH_take (i := 16) (v := undef) rfl (by kernel_rfl) (by kernel_rfl) (by kernel_rfl) (fun _ _ _ h => h) (Or.inr ⟨by rfl, rfl⟩) (by assumption) ?_
      try simp only [List.getElem_toArray, List.getElem_cons_succ, List.getElem_cons_zero, Act.put, List.setIfInBounds_toArray, List.set_cons_zero, List.set_cons_succ]
      refine wpAnyH_take (i := 17) (v := undef) rfl (by kernel_rfl) (by kernel_rfl) (by kernel_rfl) (fun _ _ _ h => h) (Or.inr ⟨by rfl, rfl⟩) (by assumption) ?_
      try simp only [List.getElem_toArray, List.getElem_cons_succ, List.getElem_cons_zero, Act.put, List.setIfInBounds_toArray, List.set_cons_zero, List.set_cons_succ]
      refine wpAnyH_take (i := 18) (v := ?_) rfl (by kernel_rfl) (by kernel_rfl) (by kernel_rfl) (fun _ _ _ h => h) (Or.inl ⟨by rfl, ?_⟩) (by assumption) ?_
      rotate_left
      · intro w9 hSw; (try dsimp only at hSw); go_simp; try with_reducible rfl
      try simp only [List.getElem_toArray, List.getElem_cons_succ, List.getElem_cons_zero, Act.put, List.setIfInBounds_toArray, List.set_cons_zero, List.set_cons_succ]
      refine wpAnyH_take (i := 19) (v := ?_) rfl (by kernel_rfl) (by kernel_rfl) (by kernel_rfl) (fun _ _ _ h => h) (Or.inl ⟨by rfl, ?_⟩) (by assumption) ?_
      rotate_left
      · intro w9 hSw; (try dsimp only at hSw); go_simp; try with_reducible rfl
      try simp only [List.getElem_toArray, List.getElem_cons_succ, List.getElem_cons_zero, Act.put, List.setIfInBounds_toArray, List.set_cons_zero, List.set_cons_succ]
      refine wpAnyH_done (by kernel_rfl) ?_ _
      refine NoPanic.normal ?_
      have HBE := Lib.hid (HB0.out.trans (hHeld.2.2.mono (by omega)))
      clear hHeld
      go_wp2_with fail
      go_ret
      exact ⟨rfl, HBE.out⟩
set_option maxRecDepth 100000 in
set_option maxHeartbeats 4000000 in
theorem spec_full (a : Option Addr) (rows : List (List Int)) (c : Nat) (a' : Option Addr) (zs : List Int) (c' : Nat) (p : Option Addr) (ls : List Int) (q : Nat) (w : World) (hr : grid.Reads w a rows) (hz : ints.Reads .i64 w a' zs) (hq : ints.Reads .i64 w p ls) (hw : ls.length ≤ 1048576) (h1 : Hid (sampleB rows zs = true)) (h : Hid (numsR 0 1000000000 ls = true)) (h0 : 0 < rows.length) (hl : ls.length = rows.length) (hp : posB ls = true) (ok : Bool) (hok : Hid (decide (sumsTo rows zs ls 1 (rows.getD 0 []).length rows.length = sumsTo rows zs ls (-1) (rows.getD 0 []).length rows.length) = ok)) :
    Calls Try.prog 113 #[.agg #[.slice a rows.length c, .slice a' zs.length c'], .slice p ls.length q] w (RetB ok w) := by
  have HSF := Lib.hid (SF.of h1.out h0 hl h.out)
  have HE : Hid (decide (sumsTo rows zs ls 1 (rows.getD 0 []).length rows.length = sumsTo rows zs ls (-1) (rows.getD 0 []).length rows.length) = ok) := hok
  have HS1 := Lib.hid (show ∀ wa : World, grid.Reads wa a rows → ints.Reads .i64 wa a' zs → ints.Reads .i64 wa p ls → Calls Try.prog 114 #[.agg #[.slice a rows.length c, .slice a' zs.length c'], .slice p ls.length q, .int .i64 (1)] wa (intfns.Made (sumsTo rows zs ls (1) (rows.getD 0 []).length rows.length) wa) from fun wa h1 h2 h3 => spec_sums a rows c a' zs c' p ls q (1) wa h1 h2 h3 HSF.out)
  have HL1 := Lib.hid (show 1 ≤ (sumsTo rows zs ls (1) (rows.getD 0 []).length rows.length).length ∧ (sumsTo rows zs ls (1) (rows.getD 0 []).length rows.length).length = (rows.getD 0 []).length + 1 ∧ (rows.getD 0 []).length ≤ 4 from by have := HSF.out.d4; rw [sums_length]; omega)
  have HS2 := Lib.hid (show ∀ wa : World, grid.Reads wa a rows → ints.Reads .i64 wa a' zs → ints.Reads .i64 wa p ls → Calls Try.prog 114 #[.agg #[.slice a rows.length c, .slice a' zs.length c'], .slice p ls.length q, .int .i64 (-1)] wa (intfns.Made (sumsTo rows zs ls (-1) (rows.getD 0 []).length rows.length) wa) from fun wa h1 h2 h3 => spec_sums a rows c a' zs c' p ls q (-1) wa h1 h2 h3 HSF.out)
  have HL2 := Lib.hid (show 1 ≤ (sumsTo rows zs ls (-1) (rows.getD 0 []).length rows.length).length ∧ (sumsTo rows zs ls (-1) (rows.getD 0 []).length rows.length).length = (rows.getD 0 []).length + 1 ∧ (rows.getD 0 []).length ≤ 4 from by have := HSF.out.d4; rw [sums_length]; omega)
  generalize sumsTo rows zs ls 1 (rows.getD 0 []).length rows.length = sm1 at *
  generalize sumsTo rows zs ls (-1) (rows.getD 0 []).length rows.length = sm2 at *
  have g0 : ((ls.length : Int) == (rows.length : Int)) = true := by rw [beq_iff_eq]; omega
  have gp : decide (0 < maxTo ls ls.length) = true := by rw [← pos_iff]; exact hp
  have HLL := Lib.hid hl
  clear hl hp
  have Hhr := Lib.hid hr
  have Hhz := Lib.hid hz
  have Hhq := Lib.hid hq
  clear hr hz hq
  go_enter Try.func113, Try.ntmps113
  go_wp2_with fail
  have x0_0 : (w.alloc (.cells #[.slice a rows.length c, .slice a' zs.length c'] 55)).cell? ⟨w.heap.size, 0, none⟩ = some (.slice a rows.length c) := cell_new _ _ _ (by simp) rfl
  have x0_1 : (w.alloc (.cells #[.slice a rows.length c, .slice a' zs.length c'] 55)).cell? ⟨w.heap.size, 1, none⟩ = some (.slice a' zs.length c') := cell_new _ _ _ (by simp) rfl
  have HB0 := Lib.hid (below_alloc w (.cells #[.slice a rows.length c, .slice a' zs.length c'] 55))
  have s0 : w.heap.size + 1 ≤ (w.alloc (.cells #[.slice a rows.length c, .slice a' zs.length c'] 55)).heap.size := by simp
  generalize hw : (w.alloc (.cells #[.slice a rows.length c, .slice a' zs.length c'] 55)) = w0 at *
  clear hw
  have n0_0 : w.heap.size < w0.heap.size := by omega
  have HX := Lib.hid (show w0.cell? ⟨w.heap.size, 0, none⟩ = some (.slice a rows.length c) ∧ w0.cell? ⟨w.heap.size, 1, none⟩ = some (.slice a' zs.length c') from ⟨x0_0, x0_1⟩)
  go_loopw [5, 6] (fun x i wr => ∃ k : Nat, k ≤ ls.length ∧ i = .int .i64 k ∧ x = .int .i64 (maxTo ls k) ∧ Hid (∀ j, j < k → inR 0 1000000000 (ls.getD j 0) = true) ∧ Below w0.heap.size w0 wr) (fun _ i _ => ls.length - (intOf i).toNat)
  case atStart => exact ⟨0, Nat.zero_le _, rfl, rfl, fun j hj => by omega, Below.refl _ _⟩
  case round =>
    obtain ⟨k, hk, rfl, rfl, hj, hbel⟩ := hrel
    have HBl := Lib.hid hbel
    by_cases hlt : k < ls.length
    · obtain ⟨qb, qo, hqb, hql, hqc⟩ := (Hhq.out.below HB0.out).at hlt
      subst hqb
      replace hqc := cell_below hbel hqc (by omega)
      clear hbel
      have i1 : (0 : Int) ≤ (k : Int) := by omega
      have i2 : (k : Int) < (ls.length : Int) := by omega
      have hx : inR 0 1000000000 (ls.getD k 0) = true := (inR_iff _ _ _).2 (numsR_at h.out k hlt)
      have HJ : Hid (∀ j, j < k + 1 → inR 0 1000000000 (ls.getD j 0) = true) := fun j h => by
        by_cases e : j = k
        · rw [e]; exact hx
        · exact hj.out j (by omega)
      have HX2 := Lib.hid hx
      unfold inR at HX2
      have HE := Lib.hid (show maxTo ls (k + 1) = max (maxTo ls k) (ls.getD k 0) from rfl)
      clear hx hj
      generalize ls.getD k 0 = x at *
      generalize maxTo ls k = mm at *
      go_wp2_with fail
      refine (in_any _ _ _ _ true HX2).mono ?_
      rintro e w' ⟨rfl, rfl⟩
      go_wp2_with fail
      refine (most_any _ _ _).mono ?_
      rintro e w' ⟨rfl, rfl⟩
      go_wp2_with fail
      go_roundw
      case rel => exact ⟨k + 1, by omega, by go_num, by rw [HE.out], HJ, HBl.out⟩
      case measure => simp [intOf]; omega
    · have hkk : k = ls.length := by omega
      subst hkk
      clear hj
      have x0_0 := cell_below hbel HX.out.1 (by omega)
      have x0_1 := cell_below hbel HX.out.2 (by omega)
      clear hbel
      generalize maxTo ls ls.length = mm at *
      go_wp2_with fail
      have HT1 := Lib.hid (show ∀ wa : World, (wa.cell? ⟨w.heap.size, 0, none⟩ = some (.slice a rows.length c) ∧ wa.cell? ⟨w.heap.size, 1, none⟩ = some (.slice a' zs.length c') ∧ Below w0.heap.size w0 wa) → Calls Try.prog 114 #[.agg #[.slice a rows.length c, .slice a' zs.length c'], .slice p ls.length q, .int .i64 (1)] wa (fun e w' => ∃ (p1 : Option Addr) (q1 : Nat), e = .returned (.slice p1 sm1.length q1) ∧ ints.Reads .i64 w' p1 sm1 ∧ Below wa.heap.size wa w' ∧ (w'.cell? ⟨w.heap.size, 0, none⟩ = some (.slice a rows.length c) ∧ w'.cell? ⟨w.heap.size, 1, none⟩ = some (.slice a' zs.length c') ∧ Below w0.heap.size w0 w')) from fun wa hS => by
        have hB := HB0.out.trans (hS.2.2.mono (by omega))
        have hz' := hS.2.2.size
        refine (HS1.out wa (Hhr.out.below hB) (Hhz.out.below hB) (Hhq.out.below hB)).mono ?_
        rintro e w' ⟨v, rfl, ho, hb⟩
        obtain ⟨p1, q1, rfl, _, _, _⟩ := ho.slice
        exact ⟨p1, q1, rfl, ho.reads, hb, cell_below hb hS.1 (by omega), cell_below hb hS.2.1 (by omega), hS.2.2.trans (hb.mono (by omega))⟩)
      have HT2 := Lib.hid (show ∀ wa : World, (wa.cell? ⟨w.heap.size, 0, none⟩ = some (.slice a rows.length c) ∧ wa.cell? ⟨w.heap.size, 1, none⟩ = some (.slice a' zs.length c') ∧ Below w0.heap.size w0 wa) → Calls Try.prog 114 #[.agg #[.slice a rows.length c, .slice a' zs.length c'], .slice p ls.length q, .int .i64 (-1)] wa (fun e w' => ∃ (p2 : Option Addr) (q2 : Nat), e = .returned (.slice p2 sm2.length q2) ∧ ints.Reads .i64 w' p2 sm2 ∧ Below wa.heap.size wa w' ∧ (w'.cell? ⟨w.heap.size, 0, none⟩ = some (.slice a rows.length c) ∧ w'.cell? ⟨w.heap.size, 1, none⟩ = some (.slice a' zs.length c') ∧ Below w0.heap.size w0 w')) from fun wa hS => by
        have hB := HB0.out.trans (hS.2.2.mono (by omega))
        have hz' := hS.2.2.size
        refine (HS2.out wa (Hhr.out.below hB) (Hhz.out.below hB) (Hhq.out.below hB)).mono ?_
        rintro e w' ⟨v, rfl, ho, hb⟩
        obtain ⟨p2, q2, rfl, _, _, _⟩ := ho.slice
        exact ⟨p2, q2, rfl, ho.reads, hb, cell_below hb hS.1 (by omega), cell_below hb hS.2.1 (by omega), hS.2.2.trans (hb.mono (by omega))⟩)
      refine wp_region_noPanic ?_
      refine wp_region_held_drew (S := fun w' => w'.cell? ⟨w.heap.size, 0, none⟩ = some (.slice a rows.length c) ∧ w'.cell? ⟨w.heap.size, 1, none⟩ = some (.slice a' zs.length c') ∧ Below w0.heap.size w0 w') (by kernel_rfl) ?_ (fun hHeld => ?_)
      · exact ⟨x0_0, x0_1, HBl.out.drew⟩
      refine wpAnyH_take (i := 0) (v := ?_) rfl (by kernel_rfl) (by kernel_rfl) (by kernel_rfl) (fun _ _ _ h => h) (Or.inl ⟨by rfl, ?_⟩) (by assumption) ?_
      rotate_left
      · intro w9 hSw; (try dsimp only at hSw); go_simp; try with_reducible rfl
      try simp only [List.getElem_toArray, List.getElem_cons_succ, List.getElem_cons_zero, Act.put, List.setIfInBounds_toArray, List.set_cons_zero, List.set_cons_succ]
      refine wpAnyH_take (i := 1) (v := ?_) rfl (by kernel_rfl) (by kernel_rfl) (by kernel_rfl) (fun _ _ _ h => h) (Or.inl ⟨by rfl, ?_⟩) (by assumption) ?_
      rotate_left
      · intro w9 hSw; (try dsimp only at hSw); go_simp; try with_reducible rfl
      try simp only [List.getElem_toArray, List.getElem_cons_succ, List.getElem_cons_zero, Act.put, List.setIfInBounds_toArray, List.set_cons_zero, List.set_cons_succ]
      refine wpAnyH_take (i := 2) (v := ?_) rfl (by kernel_rfl) (by kernel_rfl) (by kernel_rfl) (fun _ _ _ h => h) (Or.inl ⟨by rfl, ?_⟩) (by assumption) ?_
      rotate_left
      · intro w9 hSw; (try dsimp only at hSw); go_simp; try with_reducible rfl
      try simp only [List.getElem_toArray, List.getElem_cons_succ, List.getElem_cons_zero, Act.put, List.setIfInBounds_toArray, List.set_cons_zero, List.set_cons_succ]
      refine wpAnyH_take (i := 3) (v := ?_) rfl (by kernel_rfl) (by kernel_rfl) (by kernel_rfl) (fun _ _ _ h => h) (Or.inl ⟨by rfl, ?_⟩) (by assumption) ?_
      rotate_left
      · intro w9 hSw; (try dsimp only at hSw); go_simp; try with_reducible rfl
      try simp only [List.getElem_toArray, List.getElem_cons_succ, List.getElem_cons_zero, Act.put, List.setIfInBounds_toArray, List.set_cons_zero, List.set_cons_succ]
      refine wpAnyH_take (i := 4) (v := ?_) rfl (by kernel_rfl) (by kernel_rfl) (by kernel_rfl) (fun _ _ _ h => h) (Or.inl ⟨by rfl, ?_⟩) (by assumption) ?_
      rotate_left
      · intro w9 hSw; (try dsimp only at hSw); go_simp; try with_reducible rfl
      try simp only [List.getElem_toArray, List.getElem_cons_succ, List.getElem_cons_zero, Act.put, List.setIfInBounds_toArray, List.set_cons_zero, List.set_cons_succ]
      refine wpAnyH_take (i := 5) (v := ?_) rfl (by kernel_rfl) (by kernel_rfl) (by kernel_rfl) (fun _ _ _ h => h) (Or.inl ⟨by rfl, ?_⟩) (by assumption) ?_
      rotate_left
      · intro w9 hSw; (try dsimp only at hSw); go_simp; try with_reducible rfl
      try simp only [List.getElem_toArray, List.getElem_cons_succ, List.getElem_cons_zero, Act.put, List.setIfInBounds_toArray, List.set_cons_zero, List.set_cons_succ]
      refine wpAnyH_take (i := 6) (v := ?_) rfl (by kernel_rfl) (by kernel_rfl) (by kernel_rfl) (fun _ _ _ h => h) (Or.inl ⟨by rfl, ?_⟩) (by assumption) ?_
      rotate_left
      · intro w9 hSw; (try dsimp only at hSw); go_simp; try with_reducible rfl
      try simp only [List.getElem_toArray, List.getElem_cons_succ, List.getElem_cons_zero, Act.put, List.setIfInBounds_toArray, List.set_cons_zero, List.set_cons_succ]
      refine wpAnyH_take (i := 7) (v := ?_) rfl (by kernel_rfl) (by kernel_rfl) (by kernel_rfl) (fun _ _ _ h => h) (Or.inl ⟨by rfl, ?_⟩) (by assumption) ?_
      rotate_left
      · intro w9 hSw; (try dsimp only at hSw); go_simp; try with_reducible rfl
      try simp only [List.getElem_toArray, List.getElem_cons_succ, List.getElem_cons_zero, Act.put, List.setIfInBounds_toArray, List.set_cons_zero, List.set_cons_succ]
      refine wpAnyH_take (i := 8) (v := ?_) rfl (by kernel_rfl) (by kernel_rfl) (by kernel_rfl) (fun _ _ _ h => h) (Or.inl ⟨by rfl, ?_⟩) (by assumption) ?_
      rotate_left
      · intro w9 hSw; (try dsimp only at hSw); go_simp; try with_reducible rfl
      try simp only [List.getElem_toArray, List.getElem_cons_succ, List.getElem_cons_zero, Act.put, List.setIfInBounds_toArray, List.set_cons_zero, List.set_cons_succ]
      refine wpAnyH_take (i := 9) (v := ?_) rfl (by kernel_rfl) (by kernel_rfl) (by kernel_rfl) (fun _ _ _ h => h) (Or.inl ⟨by rfl, ?_⟩) (by assumption) ?_
      rotate_left
      · intro w9 hSw; (try dsimp only at hSw); go_simp; try with_reducible rfl
      try simp only [List.getElem_toArray, List.getElem_cons_succ, List.getElem_cons_zero, Act.put, List.setIfInBounds_toArray, List.set_cons_zero, List.set_cons_succ]
      refine wpAnyH_take (i := 10) (v := ?_) rfl (by kernel_rfl) (by kernel_rfl) (by kernel_rfl) (fun _ _ _ h => h) (Or.inl ⟨by rfl, ?_⟩) (by assumption) ?_
      rotate_left
      · intro w9 hSw; (try dsimp only at hSw); go_simp; try with_reducible rfl
      try simp only [List.getElem_toArray, List.getElem_cons_succ, List.getElem_cons_zero, Act.put, List.setIfInBounds_toArray, List.set_cons_zero, List.set_cons_succ]
      refine wpAnyH_take (i := 11) (v := ?_) rfl (by kernel_rfl) (by kernel_rfl) (by kernel_rfl) (fun _ _ _ h => h) (Or.inl ⟨by rfl, ?_⟩) (by assumption) ?_
      rotate_left
      · intro w9 hSw; (try dsimp only at hSw); go_simp; try with_reducible rfl
      try simp only [List.getElem_toArray, List.getElem_cons_succ, List.getElem_cons_zero, Act.put, List.setIfInBounds_toArray, List.set_cons_zero, List.set_cons_succ]
      refine wpAnyH_take (i := 12) (v := ?_) rfl (by kernel_rfl) (by kernel_rfl) (by kernel_rfl) (fun _ _ _ h => h) (Or.inl ⟨by rfl, ?_⟩) (by assumption) ?_
      rotate_left
      · intro w9 hSw; (try dsimp only at hSw); go_simp; try with_reducible rfl
      try simp only [List.getElem_toArray, List.getElem_cons_succ, List.getElem_cons_zero, Act.put, List.setIfInBounds_toArray, List.set_cons_zero, List.set_cons_succ]
      refine wpAnyH_take (i := 14) (v := ?_) rfl (by kernel_rfl) (by kernel_rfl) (by kernel_rfl) (fun _ _ _ h => h) (Or.inl ⟨by rfl, ?_⟩) (by assumption) ?_
      rotate_left
      · intro w9 hSw; (try dsimp only at hSw); go_simp; try with_reducible rfl
      try simp only [List.getElem_toArray, List.getElem_cons_succ, List.getElem_cons_zero, Act.put, List.setIfInBounds_toArray, List.set_cons_zero, List.set_cons_succ]
      refine wpAnyH_take (i := 15) (v := ?_) rfl (by kernel_rfl) (by kernel_rfl) (by kernel_rfl) (fun _ _ _ h => h) (Or.inl ⟨by rfl, ?_⟩) (by assumption) ?_
      rotate_left
      · intro w9 hSw; (try dsimp only at hSw); go_simp; try with_reducible rfl
      try simp only [List.getElem_toArray, List.getElem_cons_succ, List.getElem_cons_zero, Act.put, List.setIfInBounds_toArray, List.set_cons_zero, List.set_cons_succ]
      refine wpAnyH_ready (rs := [13]) (by kernel_rfl) (by simp) ?_
      refine AllReadyH.cons rfl (fun K hK => ?_) ?_
      · go_simp
        refine Calls.mono (HT1.out _ ?_) ?_
        · exact hHeld
        rintro e va ⟨p1, q1, rfl, hr1, hbA, hxA⟩
        refine hK.out _ _ ?_ (fun hHeld => ?_)
        · exact hxA
        clear hK K
        try simp only [List.getElem_toArray, List.getElem_cons_succ, List.getElem_cons_zero, Act.put, List.setIfInBounds_toArray, List.set_cons_zero, List.set_cons_succ]
        refine wpAnyH_ready (rs := [16]) (by kernel_rfl) (by simp) ?_
        refine AllReadyH.cons rfl (fun K hK => ?_) ?_
        · go_simp
          refine Calls.mono (HT2.out _ ?_) ?_
          · exact hHeld
          rintro e vb ⟨p2, q2, rfl, hr2, hbB, hxB⟩
          refine hK.out _ _ ?_ (fun hHeld => ?_)
          · exact hxB
          clear hK K
          try simp only [List.getElem_toArray, List.getElem_cons_succ, List.getElem_cons_zero, Act.put, List.setIfInBounds_toArray, List.set_cons_zero, List.set_cons_succ]
          replace hr1 := hr1.below hbB
          refine wpAnyH_ready (rs := [17]) (by kernel_rfl) (by simp) ?_
          refine AllReadyH.cons rfl (fun K hK => ?_) ?_
          · go_simp
            refine (spec_same p1 sm1 q1 p2 sm2 q2 _ hr1 hr2 (by have := HL1.out; omega) (by have := HL2.out; omega) ok HE).mono ?_
            rintro e vc ⟨rfl, mq, rfl⟩
            refine hK.out _ _ ?_ (fun hHeld => ?_)
            · exact ⟨hHeld.1, hHeld.2.1, ints.below_drewN hHeld.2.2 _⟩
            clear hK K
            try simp only [List.getElem_toArray, List.getElem_cons_succ, List.getElem_cons_zero, Act.put, List.setIfInBounds_toArray, List.set_cons_zero, List.set_cons_succ]
            refine wpAnyH_take (i := 18) (v := ?_) rfl (by kernel_rfl) (by kernel_rfl) (by kernel_rfl) (fun _ _ _ h => h) (Or.inl ⟨by rfl, ?_⟩) (by assumption) ?_
            rotate_left
            · intro w9 hSw; (try dsimp only at hSw); go_simp; try with_reducible rfl
            try simp only [List.getElem_toArray, List.getElem_cons_succ, List.getElem_cons_zero, Act.put, List.setIfInBounds_toArray, List.set_cons_zero, List.set_cons_succ]
            refine wpAnyH_take (i := 19) (v := ?_) rfl (by kernel_rfl) (by kernel_rfl) (by kernel_rfl) (fun _ _ _ h => h) (Or.inl ⟨by rfl, ?_⟩) (by assumption) ?_
            rotate_left
            · intro w9 hSw; (try dsimp only at hSw); go_simp; try with_reducible rfl
            try simp only [List.getElem_toArray, List.getElem_cons_succ, List.getElem_cons_zero, Act.put, List.setIfInBounds_toArray, List.set_cons_zero, List.set_cons_succ]
            refine wpAnyH_done (by kernel_rfl) ?_ _
            refine NoPanic.normal ?_
            have HBE := Lib.hid (HB0.out.trans (hHeld.2.2.mono (by omega)))
            clear hHeld
            go_wp2_with fail
            go_ret
            exact ⟨rfl, HBE.out⟩
          exact AllReadyH.nil
        exact AllReadyH.nil
      exact AllReadyH.nil
theorem spec_cert (a : Option Addr) (rows : List (List Int)) (c : Nat) (a' : Option Addr) (zs : List Int) (c' : Nat) (p : Option Addr) (ls : List Int) (q : Nat) (w : World) (hr : grid.Reads w a rows) (hz : ints.Reads .i64 w a' zs) (hq : ints.Reads .i64 w p ls) (hw : ls.length ≤ 1048576) (h1 : Hid (sampleB rows zs = true)) (ok : Bool) (h : Hid (ceB rows zs ls = ok)) :
    Calls Try.prog 113 #[.agg #[.slice a rows.length c, .slice a' zs.length c'], .slice p ls.length q] w (RetB ok w) := by
  cases hn : numsR 0 1000000000 ls
  · have e : ok = false := by rw [← h.out, ceB, hn]; rfl
    subst e
    exact spec_bad a rows c a' zs c' p ls q w hr hz hq hw (Lib.hid hn)
  · by_cases hl : ls.length = rows.length
    · cases hp : posB ls
      · have e : ok = false := by rw [← h.out, ceB, hp]; simp
        subst e
        exact spec_zero a rows c a' zs c' p ls q w hr hz hq hw (Lib.hid hn) hl hp
      · have h0 : 0 < rows.length := by
          rw [pos_iff, decide_eq_true_eq, max_pos] at hp
          obtain ⟨j, hj, _⟩ := hp
          omega
        refine spec_full a rows c a' zs c' p ls q w hr hz hq hw h1 (Lib.hid hn) h0 hl hp ok (Lib.hid ?_)
        rw [← h.out, ceB, hn, hp, decide_eq_true hl]
        rfl
    · have e : ok = false := by rw [← h.out, ceB, decide_eq_false hl]; simp
      subst e
      exact spec_len a rows c a' zs c' p ls q w hr hz hq hw (Lib.hid hn) hl

theorem equal_any (a : Option Addr) (xs : List Int) (c : Nat) (a' : Option Addr) (ys : List Int) (c' : Nat) (w : World) (hr : ints.Reads .i64 w a xs) (hq : ints.Reads .i64 w a' ys) (h0 : 0 < xs.length) (hn : xs.length ≤ 1048576) (hl : xs.length = ys.length) (ok : Bool) (h : Hid (decide (xs = ys) = ok)) :
    Calls Try.prog 168 #[.slice a xs.length c, .slice a' ys.length c'] w (fun e w' => e = .returned (.bool ok) ∧ ∃ m, w' = w.drewN m) := by
  obtain ⟨b, off, rfl, hb, hc⟩ := own1.reads_pos hr h0
  obtain ⟨b', off', rfl, hb', hc'⟩ := own1.reads_pos hq (by omega)
  refine (Any.slices_Equal_int Try.equalL b off xs.length c b' off' ys.length c' xs ys w (Nat.le_refl _) (Nat.le_refl _) (by omega) (by omega) hc hc').mono ?_
  rintro e w' ⟨rfl, m, rfl⟩
  refine ⟨?_, m, rfl⟩
  rw [List.take_length, List.take_length, ← h.out]
  congr 2
  rw [Bool.eq_iff_iff, beq_iff_eq, decide_eq_true_eq]
theorem pos_at (w : World) : PredAt Try.prog 167 #[] (Value.int .i64) (fun z => decide (0 < z)) w := by
  intro W z hB
  show Calls _ _ #[.int .i64 z] W _
  refine Calls.mono (show Calls Try.prog 167 #[.int .i64 z] W (fun e w' => e = .returned (.bool (decide (0 < z))) ∧ ∃ q, w' = W.drewN q) from ?_) (fun e w' h => h)
  clear hB
  go_enter Try.func167, Try.ntmps167
  go_wp2_with fail
  go_ret
  exact ⟨rfl, 0, rfl⟩
theorem contains_pos (a : Option Addr) (zs : List Int) (c : Nat) (w : World) (hr : ints.Reads .i64 w a zs) (hn : zs.length ≤ 1048576) (ok : Bool) (h : Hid (posB zs = ok)) :
    Calls Try.prog 152 #[.slice a zs.length c, .func (.func 167) #[] #[]] w fun e w' => e = .returned (.bool ok) ∧ ∃ q, w' = w.drewN q := by
  rcases hr with rfl | ⟨b, off, rfl, hb, hc⟩
  · refine (Try.slices_ContainsFunc_empty (α := Int) _ _ _ _).mono ?_
    rintro e w' ⟨rfl, rfl⟩
    exact ⟨by rw [← h.out]; rfl, 0, rfl⟩
  · refine (Try.slices_ContainsFunc (α := Int) (Value.int .i64) (fun z => decide (0 < z)) _ _ (enters_of Try.func167 (by kernel_rfl) rfl) b off zs.length c zs _ (pos_at _) (Nat.le_refl _) (by omega) (cell_bang hc)).mono ?_
    rintro e w' ⟨rfl, q, rfl⟩
    refine ⟨?_, _, rfl⟩
    rw [List.take_length, ← h.out]
    rfl
set_option maxRecDepth 100000 in
set_option maxHeartbeats 4000000 in
theorem impl_no (a : Option Addr) (rows : List (List Int)) (c : Nat) (a' : Option Addr) (zs : List Int) (c' : Nat) (p : Option Addr) (ls : List Int) (q : Nat) (w : World) (hr : grid.Reads w a rows) (hz : ints.Reads .i64 w a' zs) (hq : ints.Reads .i64 w p ls) (hn : rows.length ≤ 1048576) (hk : zs.length ≤ 1048576) (hm : ∀ r ∈ rows, r.length ≤ 1048576) (hw : ls.length ≤ 1048576) (h : Hid (sampleB rows zs = false)) :
    Calls Try.prog 116 #[.agg #[.slice a rows.length c, .slice a' zs.length c'], .slice p ls.length q] w (RetBB false false w) := by
  have HMM := Lib.hid hm
  clear hm
  have Hhr := Lib.hid hr
  have Hhz := Lib.hid hz
  have Hhq := Lib.hid hq
  clear hr hz hq
  go_enter Try.func116, Try.ntmps116
  go_wp2_with fail
  have x0_0 : (w.alloc (.cells #[.slice a rows.length c, .slice a' zs.length c'] 55)).cell? ⟨w.heap.size, 0, none⟩ = some (.slice a rows.length c) := cell_new _ _ _ (by simp) rfl
  have x0_1 : (w.alloc (.cells #[.slice a rows.length c, .slice a' zs.length c'] 55)).cell? ⟨w.heap.size, 1, none⟩ = some (.slice a' zs.length c') := cell_new _ _ _ (by simp) rfl
  have HB0 := Lib.hid (below_alloc w (.cells #[.slice a rows.length c, .slice a' zs.length c'] 55))
  have s0 : w.heap.size + 1 ≤ (w.alloc (.cells #[.slice a rows.length c, .slice a' zs.length c'] 55)).heap.size := by simp
  generalize hw : (w.alloc (.cells #[.slice a rows.length c, .slice a' zs.length c'] 55)) = w0 at *
  clear hw
  have n0_0 : w.heap.size < w0.heap.size := by omega
  refine (impl_sample a rows c a' zs c' _ (Hhr.out.below HB0.out) (Hhz.out.below HB0.out) hn hk HMM.out false h).mono ?_
  rintro e w1 ⟨rfl, hb⟩
  have s1 : w0.heap.size ≤ w1.heap.size := hb.size
  have n1_0 : w.heap.size < w1.heap.size := by omega
  replace x0_0 := cell_below hb x0_0 (by omega)
  replace x0_1 := cell_below hb x0_1 (by omega)
  have HB1 := Lib.hid (HB0.out.trans (hb.mono (by omega)))
  clear hb
  go_wp2_with fail
  go_ret2
  exact ⟨rfl, HB1.out⟩
set_option maxRecDepth 100000 in
set_option maxHeartbeats 4000000 in
theorem impl_len (a : Option Addr) (rows : List (List Int)) (c : Nat) (a' : Option Addr) (zs : List Int) (c' : Nat) (p : Option Addr) (ls : List Int) (q : Nat) (w : World) (hr : grid.Reads w a rows) (hz : ints.Reads .i64 w a' zs) (hq : ints.Reads .i64 w p ls) (hn : rows.length ≤ 1048576) (hk : zs.length ≤ 1048576) (hm : ∀ r ∈ rows, r.length ≤ 1048576) (hw : ls.length ≤ 1048576) (h1 : Hid (sampleB rows zs = true)) (hl : ls.length ≠ rows.length) :
    Calls Try.prog 116 #[.agg #[.slice a rows.length c, .slice a' zs.length c'], .slice p ls.length q] w (RetBB false true w) := by
  have HMM := Lib.hid hm
  clear hm
  have g0 : ((ls.length : Int) != (rows.length : Int)) = true := by rw [bne_iff_ne]; omega
  clear hl
  have Hhr := Lib.hid hr
  have Hhz := Lib.hid hz
  have Hhq := Lib.hid hq
  clear hr hz hq
  go_enter Try.func116, Try.ntmps116
  go_wp2_with fail
  have x0_0 : (w.alloc (.cells #[.slice a rows.length c, .slice a' zs.length c'] 55)).cell? ⟨w.heap.size, 0, none⟩ = some (.slice a rows.length c) := cell_new _ _ _ (by simp) rfl
  have x0_1 : (w.alloc (.cells #[.slice a rows.length c, .slice a' zs.length c'] 55)).cell? ⟨w.heap.size, 1, none⟩ = some (.slice a' zs.length c') := cell_new _ _ _ (by simp) rfl
  have HB0 := Lib.hid (below_alloc w (.cells #[.slice a rows.length c, .slice a' zs.length c'] 55))
  have s0 : w.heap.size + 1 ≤ (w.alloc (.cells #[.slice a rows.length c, .slice a' zs.length c'] 55)).heap.size := by simp
  generalize hw : (w.alloc (.cells #[.slice a rows.length c, .slice a' zs.length c'] 55)) = w0 at *
  clear hw
  have n0_0 : w.heap.size < w0.heap.size := by omega
  refine (impl_sample a rows c a' zs c' _ (Hhr.out.below HB0.out) (Hhz.out.below HB0.out) hn hk HMM.out true h1).mono ?_
  rintro e w1 ⟨rfl, hb⟩
  have s1 : w0.heap.size ≤ w1.heap.size := hb.size
  have n1_0 : w.heap.size < w1.heap.size := by omega
  replace x0_0 := cell_below hb x0_0 (by omega)
  replace x0_1 := cell_below hb x0_1 (by omega)
  have HB1 := Lib.hid (HB0.out.trans (hb.mono (by omega)))
  clear hb
  go_wp2_with fail
  go_ret2
  exact ⟨rfl, HB1.out⟩
set_option maxRecDepth 100000 in
set_option maxHeartbeats 4000000 in
theorem impl_bad (a : Option Addr) (rows : List (List Int)) (c : Nat) (a' : Option Addr) (zs : List Int) (c' : Nat) (p : Option Addr) (ls : List Int) (q : Nat) (w : World) (hr : grid.Reads w a rows) (hz : ints.Reads .i64 w a' zs) (hq : ints.Reads .i64 w p ls) (hn : rows.length ≤ 1048576) (hk : zs.length ≤ 1048576) (hm : ∀ r ∈ rows, r.length ≤ 1048576) (hw : ls.length ≤ 1048576) (h1 : Hid (sampleB rows zs = true)) (hl : ls.length = rows.length) (h : Hid (numsR 0 1000000000 ls = false)) :
    Calls Try.prog 116 #[.agg #[.slice a rows.length c, .slice a' zs.length c'], .slice p ls.length q] w (RetBB false true w) := by
  have HMM := Lib.hid hm
  clear hm
  have g0 : ((ls.length : Int) != (rows.length : Int)) = false := by rw [bne_eq_false_iff_eq]; omega
  have HLL := Lib.hid hl
  clear hl
  have Hhr := Lib.hid hr
  have Hhz := Lib.hid hz
  have Hhq := Lib.hid hq
  clear hr hz hq
  go_enter Try.func116, Try.ntmps116
  go_wp2_with fail
  have x0_0 : (w.alloc (.cells #[.slice a rows.length c, .slice a' zs.length c'] 55)).cell? ⟨w.heap.size, 0, none⟩ = some (.slice a rows.length c) := cell_new _ _ _ (by simp) rfl
  have x0_1 : (w.alloc (.cells #[.slice a rows.length c, .slice a' zs.length c'] 55)).cell? ⟨w.heap.size, 1, none⟩ = some (.slice a' zs.length c') := cell_new _ _ _ (by simp) rfl
  have HB0 := Lib.hid (below_alloc w (.cells #[.slice a rows.length c, .slice a' zs.length c'] 55))
  have s0 : w.heap.size + 1 ≤ (w.alloc (.cells #[.slice a rows.length c, .slice a' zs.length c'] 55)).heap.size := by simp
  generalize hw : (w.alloc (.cells #[.slice a rows.length c, .slice a' zs.length c'] 55)) = w0 at *
  clear hw
  have n0_0 : w.heap.size < w0.heap.size := by omega
  refine (impl_sample a rows c a' zs c' _ (Hhr.out.below HB0.out) (Hhz.out.below HB0.out) hn hk HMM.out true h1).mono ?_
  rintro e w1 ⟨rfl, hb⟩
  have s1 : w0.heap.size ≤ w1.heap.size := hb.size
  have n1_0 : w.heap.size < w1.heap.size := by omega
  replace x0_0 := cell_below hb x0_0 (by omega)
  replace x0_1 := cell_below hb x0_1 (by omega)
  have HB1 := Lib.hid (HB0.out.trans (hb.mono (by omega)))
  clear hb
  go_wp2_with fail
  refine (impl_range p ls q 1000000000 _ (Hhq.out.below HB1.out) hw false h).mono ?_
  rintro e w2 ⟨rfl, hb⟩
  have s2 : w1.heap.size ≤ w2.heap.size := hb.size
  have n2_0 : w.heap.size < w2.heap.size := by omega
  replace x0_0 := cell_below hb x0_0 (by omega)
  replace x0_1 := cell_below hb x0_1 (by omega)
  have HB2 := Lib.hid (HB1.out.trans (hb.mono (by omega)))
  clear hb
  go_wp2_with fail
  go_ret2
  exact ⟨rfl, HB2.out⟩
set_option maxRecDepth 100000 in
set_option maxHeartbeats 4000000 in
theorem impl_zero (a : Option Addr) (rows : List (List Int)) (c : Nat) (a' : Option Addr) (zs : List Int) (c' : Nat) (p : Option Addr) (ls : List Int) (q : Nat) (w : World) (hr : grid.Reads w a rows) (hz : ints.Reads .i64 w a' zs) (hq : ints.Reads .i64 w p ls) (hn : rows.length ≤ 1048576) (hk : zs.length ≤ 1048576) (hm : ∀ r ∈ rows, r.length ≤ 1048576) (hw : ls.length ≤ 1048576) (h1 : Hid (sampleB rows zs = true)) (hl : ls.length = rows.length) (h : Hid (numsR 0 1000000000 ls = true)) (hp : Hid (posB ls = false)) :
    Calls Try.prog 116 #[.agg #[.slice a rows.length c, .slice a' zs.length c'], .slice p ls.length q] w (RetBB false true w) := by
  have HMM := Lib.hid hm
  clear hm
  have g0 : ((ls.length : Int) != (rows.length : Int)) = false := by rw [bne_eq_false_iff_eq]; omega
  have HLL := Lib.hid hl
  clear hl
  have Hhr := Lib.hid hr
  have Hhz := Lib.hid hz
  have Hhq := Lib.hid hq
  clear hr hz hq
  go_enter Try.func116, Try.ntmps116
  go_wp2_with fail
  have x0_0 : (w.alloc (.cells #[.slice a rows.length c, .slice a' zs.length c'] 55)).cell? ⟨w.heap.size, 0, none⟩ = some (.slice a rows.length c) := cell_new _ _ _ (by simp) rfl
  have x0_1 : (w.alloc (.cells #[.slice a rows.length c, .slice a' zs.length c'] 55)).cell? ⟨w.heap.size, 1, none⟩ = some (.slice a' zs.length c') := cell_new _ _ _ (by simp) rfl
  have HB0 := Lib.hid (below_alloc w (.cells #[.slice a rows.length c, .slice a' zs.length c'] 55))
  have s0 : w.heap.size + 1 ≤ (w.alloc (.cells #[.slice a rows.length c, .slice a' zs.length c'] 55)).heap.size := by simp
  generalize hw : (w.alloc (.cells #[.slice a rows.length c, .slice a' zs.length c'] 55)) = w0 at *
  clear hw
  have n0_0 : w.heap.size < w0.heap.size := by omega
  refine (impl_sample a rows c a' zs c' _ (Hhr.out.below HB0.out) (Hhz.out.below HB0.out) hn hk HMM.out true h1).mono ?_
  rintro e w1 ⟨rfl, hb⟩
  have s1 : w0.heap.size ≤ w1.heap.size := hb.size
  have n1_0 : w.heap.size < w1.heap.size := by omega
  replace x0_0 := cell_below hb x0_0 (by omega)
  replace x0_1 := cell_below hb x0_1 (by omega)
  have HB1 := Lib.hid (HB0.out.trans (hb.mono (by omega)))
  clear hb
  go_wp2_with fail
  refine (impl_range p ls q 1000000000 _ (Hhq.out.below HB1.out) hw true h).mono ?_
  rintro e w2 ⟨rfl, hb⟩
  have s2 : w1.heap.size ≤ w2.heap.size := hb.size
  have n2_0 : w.heap.size < w2.heap.size := by omega
  replace x0_0 := cell_below hb x0_0 (by omega)
  replace x0_1 := cell_below hb x0_1 (by omega)
  have HB2 := Lib.hid (HB1.out.trans (hb.mono (by omega)))
  clear hb
  go_wp2_with fail
  refine (contains_pos p ls q _ (Hhq.out.below HB2.out) hw false hp).mono ?_
  rintro e w' ⟨rfl, m3, rfl⟩
  have hb := ints.below_drewN (Below.refl w2.heap.size w2) m3
  generalize hw : w2.drewN m3 = w3 at *
  clear hw
  have s3 : w2.heap.size ≤ w3.heap.size := hb.size
  have n3_0 : w.heap.size < w3.heap.size := by omega
  replace x0_0 := cell_below hb x0_0 (by omega)
  replace x0_1 := cell_below hb x0_1 (by omega)
  have HB3 := Lib.hid (HB2.out.trans (hb.mono (by omega)))
  clear hb
  go_wp2_with fail
  go_ret2
  exact ⟨rfl, HB3.out⟩
set_option maxRecDepth 100000 in
set_option maxHeartbeats 4000000 in
theorem impl_full (a : Option Addr) (rows : List (List Int)) (c : Nat) (a' : Option Addr) (zs : List Int) (c' : Nat) (p : Option Addr) (ls : List Int) (q : Nat) (w : World) (hr : grid.Reads w a rows) (hz : ints.Reads .i64 w a' zs) (hq : ints.Reads .i64 w p ls) (hn : rows.length ≤ 1048576) (hk : zs.length ≤ 1048576) (hm : ∀ r ∈ rows, r.length ≤ 1048576) (hw : ls.length ≤ 1048576) (h1 : Hid (sampleB rows zs = true)) (h : Hid (numsR 0 1000000000 ls = true)) (h0 : 0 < rows.length) (hl : ls.length = rows.length) (hp : posB ls = true) (ok : Bool) (hok : Hid (decide (sumsTo rows zs ls 1 (rows.getD 0 []).length rows.length = sumsTo rows zs ls (-1) (rows.getD 0 []).length rows.length) = ok)) :
    Calls Try.prog 116 #[.agg #[.slice a rows.length c, .slice a' zs.length c'], .slice p ls.length q] w (RetBB ok true w) := by
  have HMM := Lib.hid hm
  clear hm
  have HSF := Lib.hid (SF.of h1.out h0 hl h.out)
  have HE : Hid (decide (sumsTo rows zs ls 1 (rows.getD 0 []).length rows.length = sumsTo rows zs ls (-1) (rows.getD 0 []).length rows.length) = ok) := hok
  have HS1 := Lib.hid (show ∀ wa : World, grid.Reads wa a rows → ints.Reads .i64 wa a' zs → ints.Reads .i64 wa p ls → Calls Try.prog 117 #[.agg #[.slice a rows.length c, .slice a' zs.length c'], .slice p ls.length q, .int .i64 (1)] wa (intfns.Made (sumsTo rows zs ls (1) (rows.getD 0 []).length rows.length) wa) from fun wa h1 h2 h3 => impl_sums a rows c a' zs c' p ls q (1) wa h1 h2 h3 HSF.out)
  have HL1 := Lib.hid (show 1 ≤ (sumsTo rows zs ls (1) (rows.getD 0 []).length rows.length).length ∧ (sumsTo rows zs ls (1) (rows.getD 0 []).length rows.length).length = (rows.getD 0 []).length + 1 ∧ (rows.getD 0 []).length ≤ 4 from by have := HSF.out.d4; rw [sums_length]; omega)
  have HS2 := Lib.hid (show ∀ wa : World, grid.Reads wa a rows → ints.Reads .i64 wa a' zs → ints.Reads .i64 wa p ls → Calls Try.prog 117 #[.agg #[.slice a rows.length c, .slice a' zs.length c'], .slice p ls.length q, .int .i64 (-1)] wa (intfns.Made (sumsTo rows zs ls (-1) (rows.getD 0 []).length rows.length) wa) from fun wa h1 h2 h3 => impl_sums a rows c a' zs c' p ls q (-1) wa h1 h2 h3 HSF.out)
  have HL2 := Lib.hid (show 1 ≤ (sumsTo rows zs ls (-1) (rows.getD 0 []).length rows.length).length ∧ (sumsTo rows zs ls (-1) (rows.getD 0 []).length rows.length).length = (rows.getD 0 []).length + 1 ∧ (rows.getD 0 []).length ≤ 4 from by have := HSF.out.d4; rw [sums_length]; omega)
  generalize sumsTo rows zs ls 1 (rows.getD 0 []).length rows.length = sm1 at *
  generalize sumsTo rows zs ls (-1) (rows.getD 0 []).length rows.length = sm2 at *
  have HPO := Lib.hid hp
  have g0 : ((ls.length : Int) != (rows.length : Int)) = false := by rw [bne_eq_false_iff_eq]; omega
  have HLL := Lib.hid hl
  clear hl
  clear hp
  have Hhr := Lib.hid hr
  have Hhz := Lib.hid hz
  have Hhq := Lib.hid hq
  clear hr hz hq
  go_enter Try.func116, Try.ntmps116
  go_wp2_with fail
  have x0_0 : (w.alloc (.cells #[.slice a rows.length c, .slice a' zs.length c'] 55)).cell? ⟨w.heap.size, 0, none⟩ = some (.slice a rows.length c) := cell_new _ _ _ (by simp) rfl
  have x0_1 : (w.alloc (.cells #[.slice a rows.length c, .slice a' zs.length c'] 55)).cell? ⟨w.heap.size, 1, none⟩ = some (.slice a' zs.length c') := cell_new _ _ _ (by simp) rfl
  have HB0 := Lib.hid (below_alloc w (.cells #[.slice a rows.length c, .slice a' zs.length c'] 55))
  have s0 : w.heap.size + 1 ≤ (w.alloc (.cells #[.slice a rows.length c, .slice a' zs.length c'] 55)).heap.size := by simp
  generalize hw : (w.alloc (.cells #[.slice a rows.length c, .slice a' zs.length c'] 55)) = w0 at *
  clear hw
  have n0_0 : w.heap.size < w0.heap.size := by omega
  refine (impl_sample a rows c a' zs c' _ (Hhr.out.below HB0.out) (Hhz.out.below HB0.out) hn hk HMM.out true h1).mono ?_
  rintro e w1 ⟨rfl, hb⟩
  have s1 : w0.heap.size ≤ w1.heap.size := hb.size
  have n1_0 : w.heap.size < w1.heap.size := by omega
  replace x0_0 := cell_below hb x0_0 (by omega)
  replace x0_1 := cell_below hb x0_1 (by omega)
  have HB1 := Lib.hid (HB0.out.trans (hb.mono (by omega)))
  clear hb
  go_wp2_with fail
  refine (impl_range p ls q 1000000000 _ (Hhq.out.below HB1.out) hw true h).mono ?_
  rintro e w2 ⟨rfl, hb⟩
  have s2 : w1.heap.size ≤ w2.heap.size := hb.size
  have n2_0 : w.heap.size < w2.heap.size := by omega
  replace x0_0 := cell_below hb x0_0 (by omega)
  replace x0_1 := cell_below hb x0_1 (by omega)
  have HB2 := Lib.hid (HB1.out.trans (hb.mono (by omega)))
  clear hb
  go_wp2_with fail
  refine (contains_pos p ls q _ (Hhq.out.below HB2.out) hw true HPO).mono ?_
  rintro e w' ⟨rfl, m3, rfl⟩
  have hb := ints.below_drewN (Below.refl w2.heap.size w2) m3
  generalize hw : w2.drewN m3 = w3 at *
  clear hw
  have s3 : w2.heap.size ≤ w3.heap.size := hb.size
  have n3_0 : w.heap.size < w3.heap.size := by omega
  replace x0_0 := cell_below hb x0_0 (by omega)
  replace x0_1 := cell_below hb x0_1 (by omega)
  have HB3 := Lib.hid (HB2.out.trans (hb.mono (by omega)))
  clear hb
  go_wp2_with fail
  have HT1 := Lib.hid (show ∀ wa : World, (wa.cell? ⟨w.heap.size, 0, none⟩ = some (.slice a rows.length c) ∧ wa.cell? ⟨w.heap.size, 1, none⟩ = some (.slice a' zs.length c') ∧ Below w3.heap.size w3 wa) → Calls Try.prog 117 #[.agg #[.slice a rows.length c, .slice a' zs.length c'], .slice p ls.length q, .int .i64 (1)] wa (fun e w' => ∃ (p1 : Option Addr) (q1 : Nat), e = .returned (.slice p1 sm1.length q1) ∧ ints.Reads .i64 w' p1 sm1 ∧ Below wa.heap.size wa w' ∧ (w'.cell? ⟨w.heap.size, 0, none⟩ = some (.slice a rows.length c) ∧ w'.cell? ⟨w.heap.size, 1, none⟩ = some (.slice a' zs.length c') ∧ Below w3.heap.size w3 w')) from fun wa hS => by
    have hB := HB3.out.trans (hS.2.2.mono (by omega))
    have hz' := hS.2.2.size
    refine (HS1.out wa (Hhr.out.below hB) (Hhz.out.below hB) (Hhq.out.below hB)).mono ?_
    rintro e w' ⟨v, rfl, ho, hb⟩
    obtain ⟨p1, q1, rfl, _, _, _⟩ := ho.slice
    exact ⟨p1, q1, rfl, ho.reads, hb, cell_below hb hS.1 (by omega), cell_below hb hS.2.1 (by omega), hS.2.2.trans (hb.mono (by omega))⟩)
  have HT2 := Lib.hid (show ∀ wa : World, (wa.cell? ⟨w.heap.size, 0, none⟩ = some (.slice a rows.length c) ∧ wa.cell? ⟨w.heap.size, 1, none⟩ = some (.slice a' zs.length c') ∧ Below w3.heap.size w3 wa) → Calls Try.prog 117 #[.agg #[.slice a rows.length c, .slice a' zs.length c'], .slice p ls.length q, .int .i64 (-1)] wa (fun e w' => ∃ (p2 : Option Addr) (q2 : Nat), e = .returned (.slice p2 sm2.length q2) ∧ ints.Reads .i64 w' p2 sm2 ∧ Below wa.heap.size wa w' ∧ (w'.cell? ⟨w.heap.size, 0, none⟩ = some (.slice a rows.length c) ∧ w'.cell? ⟨w.heap.size, 1, none⟩ = some (.slice a' zs.length c') ∧ Below w3.heap.size w3 w')) from fun wa hS => by
    have hB := HB3.out.trans (hS.2.2.mono (by omega))
    have hz' := hS.2.2.size
    refine (HS2.out wa (Hhr.out.below hB) (Hhz.out.below hB) (Hhq.out.below hB)).mono ?_
    rintro e w' ⟨v, rfl, ho, hb⟩
    obtain ⟨p2, q2, rfl, _, _, _⟩ := ho.slice
    exact ⟨p2, q2, rfl, ho.reads, hb, cell_below hb hS.1 (by omega), cell_below hb hS.2.1 (by omega), hS.2.2.trans (hb.mono (by omega))⟩)
  refine wp_region_noPanic ?_
  refine wp_region_held_drew (S := fun w' => w'.cell? ⟨w.heap.size, 0, none⟩ = some (.slice a rows.length c) ∧ w'.cell? ⟨w.heap.size, 1, none⟩ = some (.slice a' zs.length c') ∧ Below w3.heap.size w3 w') (by kernel_rfl) ?_ (fun hHeld => ?_)
  · exact ⟨x0_0, x0_1, (Below.refl _ _).drew⟩
  refine wpAnyH_take (i := 0) (v := ?_) rfl (by kernel_rfl) (by kernel_rfl) (by kernel_rfl) (fun _ _ _ h => h) (Or.inl ⟨by rfl, ?_⟩) (by assumption) ?_
  rotate_left
  · intro w9 hSw; (try dsimp only at hSw); go_simp; try with_reducible rfl
  try simp only [List.getElem_toArray, List.getElem_cons_succ, List.getElem_cons_zero, Act.put, List.setIfInBounds_toArray, List.set_cons_zero, List.set_cons_succ]
  refine wpAnyH_take (i := 1) (v := ?_) rfl (by kernel_rfl) (by kernel_rfl) (by kernel_rfl) (fun _ _ _ h => h) (Or.inl ⟨by rfl, ?_⟩) (by assumption) ?_
  rotate_left
  · intro w9 hSw; (try dsimp only at hSw); go_simp; try with_reducible rfl
  try simp only [List.getElem_toArray, List.getElem_cons_succ, List.getElem_cons_zero, Act.put, List.setIfInBounds_toArray, List.set_cons_zero, List.set_cons_succ]
  refine wpAnyH_take (i := 3) (v := ?_) rfl (by kernel_rfl) (by kernel_rfl) (by kernel_rfl) (fun _ _ _ h => h) (Or.inl ⟨by rfl, ?_⟩) (by assumption) ?_
  rotate_left
  · intro w9 hSw; (try dsimp only at hSw); go_simp; try with_reducible rfl
  try simp only [List.getElem_toArray, List.getElem_cons_succ, List.getElem_cons_zero, Act.put, List.setIfInBounds_toArray, List.set_cons_zero, List.set_cons_succ]
  refine wpAnyH_take (i := 4) (v := ?_) rfl (by kernel_rfl) (by kernel_rfl) (by kernel_rfl) (fun _ _ _ h => h) (Or.inl ⟨by rfl, ?_⟩) (by assumption) ?_
  rotate_left
  · intro w9 hSw; (try dsimp only at hSw); go_simp; try with_reducible rfl
  try simp only [List.getElem_toArray, List.getElem_cons_succ, List.getElem_cons_zero, Act.put, List.setIfInBounds_toArray, List.set_cons_zero, List.set_cons_succ]
  refine wpAnyH_ready (rs := [2]) (by kernel_rfl) (by simp) ?_
  refine AllReadyH.cons rfl (fun K hK => ?_) ?_
  · go_simp
    refine Calls.mono (HT1.out _ ?_) ?_
    · exact hHeld
    rintro e va ⟨p1, q1, rfl, hr1, hbA, hxA⟩
    refine hK.out _ _ ?_ (fun hHeld => ?_)
    · exact hxA
    clear hK K
    try simp only [List.getElem_toArray, List.getElem_cons_succ, List.getElem_cons_zero, Act.put, List.setIfInBounds_toArray, List.set_cons_zero, List.set_cons_succ]
    refine wpAnyH_ready (rs := [5]) (by kernel_rfl) (by simp) ?_
    refine AllReadyH.cons rfl (fun K hK => ?_) ?_
    · go_simp
      refine Calls.mono (HT2.out _ ?_) ?_
      · exact hHeld
      rintro e vb ⟨p2, q2, rfl, hr2, hbB, hxB⟩
      refine hK.out _ _ ?_ (fun hHeld => ?_)
      · exact hxB
      clear hK K
      try simp only [List.getElem_toArray, List.getElem_cons_succ, List.getElem_cons_zero, Act.put, List.setIfInBounds_toArray, List.set_cons_zero, List.set_cons_succ]
      replace hr1 := hr1.below hbB
      refine wpAnyH_ready (rs := [6]) (by kernel_rfl) (by simp) ?_
      refine AllReadyH.cons rfl (fun K hK => ?_) ?_
      · go_simp
        refine (equal_any p1 sm1 q1 p2 sm2 q2 _ hr1 hr2 (by have := HL1.out; omega) (by have := HL1.out; omega) (by have := HL1.out; have := HL2.out; omega) ok HE).mono ?_
        rintro e vc ⟨rfl, mq, rfl⟩
        refine hK.out _ _ ?_ (fun hHeld => ?_)
        · exact ⟨hHeld.1, hHeld.2.1, ints.below_drewN hHeld.2.2 _⟩
        clear hK K
        try simp only [List.getElem_toArray, List.getElem_cons_succ, List.getElem_cons_zero, Act.put, List.setIfInBounds_toArray, List.set_cons_zero, List.set_cons_succ]
        refine wpAnyH_take (i := 7) (v := ?_) rfl (by kernel_rfl) (by kernel_rfl) (by kernel_rfl) (fun _ _ _ h => h) (Or.inl ⟨by rfl, ?_⟩) (by assumption) ?_
        rotate_left
        · intro w9 hSw; (try dsimp only at hSw); go_simp; try with_reducible rfl
        try simp only [List.getElem_toArray, List.getElem_cons_succ, List.getElem_cons_zero, Act.put, List.setIfInBounds_toArray, List.set_cons_zero, List.set_cons_succ]
        refine wpAnyH_take (i := 8) (v := ?_) rfl (by kernel_rfl) (by kernel_rfl) (by kernel_rfl) (fun _ _ _ h => h) (Or.inl ⟨by rfl, ?_⟩) (by assumption) ?_
        rotate_left
        · intro w9 hSw; (try dsimp only at hSw); go_simp; try with_reducible rfl
        try simp only [List.getElem_toArray, List.getElem_cons_succ, List.getElem_cons_zero, Act.put, List.setIfInBounds_toArray, List.set_cons_zero, List.set_cons_succ]
        refine wpAnyH_done (by kernel_rfl) ?_ _
        refine NoPanic.normal ?_
        have HBE := Lib.hid (HB3.out.trans (hHeld.2.2.mono (by omega)))
        clear hHeld
        go_wp2_with fail
        go_ret2
        exact ⟨rfl, HBE.out⟩
      exact AllReadyH.nil
    exact AllReadyH.nil
  exact AllReadyH.nil
theorem impl_yes (a : Option Addr) (rows : List (List Int)) (c : Nat) (a' : Option Addr) (zs : List Int) (c' : Nat) (p : Option Addr) (ls : List Int) (q : Nat) (w : World) (hr : grid.Reads w a rows) (hz : ints.Reads .i64 w a' zs) (hq : ints.Reads .i64 w p ls) (hn : rows.length ≤ 1048576) (hk : zs.length ≤ 1048576) (hm : ∀ r ∈ rows, r.length ≤ 1048576) (hw : ls.length ≤ 1048576) (h : Hid (sampleB rows zs = true)) :
    Calls Try.prog 116 #[.agg #[.slice a rows.length c, .slice a' zs.length c'], .slice p ls.length q] w (RetBB (ceB rows zs ls) true w) := by
  by_cases hl : ls.length = rows.length
  · cases hr9 : numsR 0 1000000000 ls
    · rw [show ceB rows zs ls = false from by rw [ceB, hr9]; rfl]
      exact impl_bad a rows c a' zs c' p ls q w hr hz hq hn hk hm hw h hl (Lib.hid hr9)
    · cases hp : posB ls
      · rw [show ceB rows zs ls = false from by rw [ceB, hp]; simp]
        exact impl_zero a rows c a' zs c' p ls q w hr hz hq hn hk hm hw h hl (Lib.hid hr9) (Lib.hid hp)
      · have h0 : 0 < rows.length := by
          have hp' := hp
          rw [pos_iff, decide_eq_true_eq, max_pos] at hp'
          obtain ⟨j, hj, _⟩ := hp'
          omega
        refine impl_full a rows c a' zs c' p ls q w hr hz hq hn hk hm hw h (Lib.hid hr9) h0 hl hp _ (Lib.hid ?_)
        rw [ceB, hr9, hp, decide_eq_true hl]
        rfl
  · rw [show ceB rows zs ls = false from by rw [ceB, decide_eq_false hl]; simp]
    exact impl_len a rows c a' zs c' p ls q w hr hz hq hn hk hm hw h hl
end Go.Proofs.Ytplhcboecjegjaa.cert
