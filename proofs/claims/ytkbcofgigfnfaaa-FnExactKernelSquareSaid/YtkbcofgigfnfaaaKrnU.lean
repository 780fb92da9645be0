/- The force of counts, and their square. -/
import Derived.Test.YtkbcofgigfnfaaaKrnT
import Derived.Deep.RegionHeld3
import Derived.Deep.DrawnRows
namespace Go.Proofs.Ytkbcofgigfnfaaa.krnu
open Go.RowKit own pp nums squares dots kern range fitsp force samplesv samplest cntb mk pwh krnt
set_option linter.unusedVariables false
set_option linter.unusedSimpArgs false

def fofB (rows : List (List Int)) (zs cs : List Int) (n : Int) (xs : List Int) : Bool := cntB rows zs cs n && fitsB rows xs
theorem fofB_iff (rows : List (List Int)) (zs cs : List Int) (n : Int) (xs : List Int) : fofB rows zs cs n xs = true ↔ cntB rows zs cs n = true ∧ fitsB rows xs = true := by simp [fofB]
/-- The square of counts. -/
def ksqTo (rows : List (List Int)) (zs cs : List Int) (n : Int) : Nat → Int
  | 0 => 0
  | k + 1 => ksqTo rows zs cs n k + cs.getD k 0 * zs.getD k 0 * force rows zs cs n (rows.getD k [])
theorem term_bd {rows : List (List Int)} {zs cs : List Int} {n : Int} (h : cntB rows zs cs n = true) (k : Nat) (hk : k < rows.length) : (-999 ≤ cs.getD k 0 * zs.getD k 0 ∧ cs.getD k 0 * zs.getD k 0 ≤ 999) ∧ -548152049250000 ≤ cs.getD k 0 * zs.getD k 0 * force rows zs cs n (rows.getD k []) ∧ cs.getD k 0 * zs.getD k 0 * force rows zs cs n (rows.getD k []) ≤ 548152049250000 := by
  have hF := forced_row h k hk
  obtain ⟨h2, h3, h4, h5⟩ := hF.2.2.2.2.2 k hk
  have h7 := mul_bd (A := 999) (B := 1) (x := cs.getD k 0) (y := zs.getD k 0) (by omega) (by omega) h4.1 h4.2
  have h6 := force_bd hF rows.length (Nat.le_refl _)
  have h16 := hF.1
  have h8 := mul_bd (A := 999) (B := 548700750000) (x := cs.getD k 0 * zs.getD k 0) (y := force rows zs cs n (rows.getD k [])) (by omega) (by omega) (by unfold force; omega) (by unfold force; omega)
  exact ⟨by omega, by omega⟩
theorem ksq_bd {rows : List (List Int)} {zs cs : List Int} {n : Int} (h : cntB rows zs cs n = true) (k : Nat) (hk : k ≤ rows.length) : -(548152049250000 * (k : Int)) ≤ ksqTo rows zs cs n k ∧ ksqTo rows zs cs n k ≤ 548152049250000 * (k : Int) := by
  induction k with
  | zero => simp [ksqTo]
  | succ k ih =>
    have h1 := ih (by omega)
    have h2 := (term_bd h k (by omega)).2
    show -(548152049250000 * ((k + 1 : Nat) : Int)) ≤ ksqTo rows zs cs n k + cs.getD k 0 * zs.getD k 0 * force rows zs cs n (rows.getD k []) ∧ ksqTo rows zs cs n k + cs.getD k 0 * zs.getD k 0 * force rows zs cs n (rows.getD k []) ≤ 548152049250000 * ((k + 1 : Nat) : Int)
    omega
set_option maxRecDepth 100000 in
set_option maxHeartbeats 1600000 in
theorem spec_fof_no (a : Option Addr) (rows : List (List Int)) (c : Nat) (a' : Option Addr) (zs : List Int) (c' : Nat) (e : Option Addr) (cs : List Int) (d : Nat) (n : Int) (x : Option Addr) (xs : List Int) (q : Nat) (w : World) (hr : grid.Reads w a rows) (hz : ints.Reads .i64 w a' zs) (hc : ints.Reads .i64 w e cs) (hx : ints.Reads .i64 w x xs) (hn : rows.length ≤ 1048576) (hk : zs.length ≤ 1048576) (hm : ∀ r ∈ rows, r.length ≤ 1048576) (hcn : cs.length ≤ 1048576) (hxn : xs.length ≤ 1048576) (h : fofB rows zs cs n xs = false) :
    Calls Try.prog 40 #[.agg #[.slice a rows.length c, .slice a' zs.length c'], .slice e cs.length d, .int .i64 n, .slice x xs.length q] w (RetNB 0 false w) := by
  have Hhr := Lib.hid hr
  have Hhz := Lib.hid hz
  have Hhc := Lib.hid hc
  have Hhx := Lib.hid hx
  have Hhm := Lib.hid hm
  clear hr hz hc hx hm
  cases hcb : cntB rows zs cs n
  · have HC := Lib.hid hcb
    clear h hcb
    go_enter Try.func40, Try.ntmps40
    obtain ⟨wb1, hw1⟩ : ∃ wb1 : World, wb1 = w.alloc (.cells #[.slice a rows.length c, .slice a' zs.length c'] 29) := ⟨_, rfl⟩
    have z1 : wb1.heap.size = w.heap.size + 1 := by rw [hw1]; simp
    have x0_0 := (by rw [hw1]; exact cell_new _ _ _ rfl rfl : wb1.cell? ⟨w.heap.size, 0, none⟩ = some (.slice a rows.length c))
    have x0_1 := (by rw [hw1]; exact cell_new _ _ _ rfl rfl : wb1.cell? ⟨w.heap.size, 1, none⟩ = some (.slice a' zs.length c'))
    have HB0 := Lib.hid (show Below w.heap.size w wb1 by rw [hw1]; exact (Below.refl w.heap.size w).alloc (Nat.le_refl _) _)
    have s1 : w.heap.size + 1 ≤ wb1.heap.size := by omega
    have HZ1 := Lib.hid z1
    clear z1
    go_wp2_with fail
    rw [← hw1]
    clear hw1
    refine (spec_cnt _ rows c a' zs c' e cs d n wb1 (Hhr.out.below HB0.out) (Hhz.out.below HB0.out) (Hhc.out.below HB0.out) hn hk Hhm.out hcn false HC).mono ?_
    rintro e' w2 ⟨rfl, hb⟩
    replace x0_0 := cell_below hb x0_0 (by omega)
    replace x0_1 := cell_below hb x0_1 (by omega)
    have HB2 := Lib.hid (HB0.out.trans (hb.mono HB0.out.size))
    have s2 := hb.size
    clear hb
    go_wp2_with fail
    go_ret2
    exact ⟨rfl, HB2.out⟩
  have HC := Lib.hid hcb
  cases hp : pointB xs
  · have HP := Lib.hid hp
    clear h hp hcb
    go_enter Try.func40, Try.ntmps40
    obtain ⟨wb1, hw1⟩ : ∃ wb1 : World, wb1 = w.alloc (.cells #[.slice a rows.length c, .slice a' zs.length c'] 29) := ⟨_, rfl⟩
    have z1 : wb1.heap.size = w.heap.size + 1 := by rw [hw1]; simp
    have x0_0 := (by rw [hw1]; exact cell_new _ _ _ rfl rfl : wb1.cell? ⟨w.heap.size, 0, none⟩ = some (.slice a rows.length c))
    have x0_1 := (by rw [hw1]; exact cell_new _ _ _ rfl rfl : wb1.cell? ⟨w.heap.size, 1, none⟩ = some (.slice a' zs.length c'))
    have HB0 := Lib.hid (show Below w.heap.size w wb1 by rw [hw1]; exact (Below.refl w.heap.size w).alloc (Nat.le_refl _) _)
    have s1 : w.heap.size + 1 ≤ wb1.heap.size := by omega
    have HZ1 := Lib.hid z1
    clear z1
    go_wp2_with fail
    rw [← hw1]
    clear hw1
    refine (spec_cnt _ rows c a' zs c' e cs d n wb1 (Hhr.out.below HB0.out) (Hhz.out.below HB0.out) (Hhc.out.below HB0.out) hn hk Hhm.out hcn true HC).mono ?_
    rintro e' w2 ⟨rfl, hb⟩
    replace x0_0 := cell_below hb x0_0 (by omega)
    replace x0_1 := cell_below hb x0_1 (by omega)
    have HB2 := Lib.hid (HB0.out.trans (hb.mono HB0.out.size))
    have s2 := hb.size
    clear hb
    go_wp2_with fail
    refine (spec_point x xs q w2 (Hhx.out.below HB2.out) hxn false HP).mono ?_
    rintro e' w' ⟨rfl, rfl⟩
    go_wp2_with fail
    go_ret2
    exact ⟨rfl, HB2.out⟩
  have HP := Lib.hid hp
  have hne : rows.length ≠ 0 ∧ (rows.getD 0 []).length ≠ xs.length := by
    have h9 : ¬ (fitsB rows xs = true) := fun e => by
      have := (fofB_iff rows zs cs n xs).2 ⟨hcb, e⟩
      rw [h] at this; cases this
    refine ⟨fun e => h9 ((fitsB_iff _ _).2 ⟨hp, .inl e⟩), fun e => h9 ((fitsB_iff _ _).2 ⟨hp, .inr e.symm⟩)⟩
  have hw0 := Hhm.out (rows.getD 0 []) (getD_mem rows [] 0 (by omega))
  have i0 : (0 : Int) < (rows.length : Int) := by omega
  have i1 : decide ((0 : Int) < (rows.length : Int)) = true := by simpa using i0
  have g9 : (((rows.getD 0 []).length : Int) != (xs.length : Int)) = true := by rw [bne, len_beq]; simpa using hne.2
  clear h hp hcb
  obtain ⟨bl, off, rp, rq, hab, hbl, hc0, hpq, hrow⟩ := Hhr.out.at (k := 0) (by omega)
  rw [show off + 0 = off by omega] at hc0
  clear hrow hpq
  subst hab
  clear hne
  generalize rows.getD 0 [] = r0 at *
  go_enter Try.func40, Try.ntmps40
  obtain ⟨wb1, hw1⟩ : ∃ wb1 : World, wb1 = w.alloc (.cells #[.slice (some ⟨bl, off, none⟩) rows.length c, .slice a' zs.length c'] 29) := ⟨_, rfl⟩
  have z1 : wb1.heap.size = w.heap.size + 1 := by rw [hw1]; simp
  have x0_0 := (by rw [hw1]; exact cell_new _ _ _ rfl rfl : wb1.cell? ⟨w.heap.size, 0, none⟩ = some (.slice (some ⟨bl, off, none⟩) rows.length c))
  have x0_1 := (by rw [hw1]; exact cell_new _ _ _ rfl rfl : wb1.cell? ⟨w.heap.size, 1, none⟩ = some (.slice a' zs.length c'))
  have HB0 := Lib.hid (show Below w.heap.size w wb1 by rw [hw1]; exact (Below.refl w.heap.size w).alloc (Nat.le_refl _) _)
  have s1 : w.heap.size + 1 ≤ wb1.heap.size := by omega
  have HZ1 := Lib.hid z1
  clear z1
  go_wp2_with fail
  rw [← hw1]
  clear hw1
  refine (spec_cnt _ rows c a' zs c' e cs d n wb1 (Hhr.out.below HB0.out) (Hhz.out.below HB0.out) (Hhc.out.below HB0.out) hn hk Hhm.out hcn true HC).mono ?_
  rintro e' w2 ⟨rfl, hb⟩
  replace x0_0 := cell_below hb x0_0 (by omega)
  replace x0_1 := cell_below hb x0_1 (by omega)
  have HB2 := Lib.hid (HB0.out.trans (hb.mono HB0.out.size))
  have s2 := hb.size
  clear hb
  go_wp2_with fail
  replace hc0 := cell_below HB2.out hc0 hbl
  refine (spec_point x xs q w2 (Hhx.out.below HB2.out) hxn true HP).mono ?_
  rintro e' w' ⟨rfl, rfl⟩
  go_wp2_with fail
  go_ret2
  exact ⟨rfl, HB2.out⟩
set_option maxRecDepth 100000 in
set_option maxHeartbeats 1600000 in
theorem spec_fof_yes (a : Option Addr) (rows : List (List Int)) (c : Nat) (a' : Option Addr) (zs : List Int) (c' : Nat) (e : Option Addr) (cs : List Int) (d : Nat) (n : Int) (x : Option Addr) (xs : List Int) (q : Nat) (w : World) (hr : grid.Reads w a rows) (hz : ints.Reads .i64 w a' zs) (hc : ints.Reads .i64 w e cs) (hx : ints.Reads .i64 w x xs) (hn : rows.length ≤ 1048576) (hk : zs.length ≤ 1048576) (hm : ∀ r ∈ rows, r.length ≤ 1048576) (hcn : cs.length ≤ 1048576) (hxn : xs.length ≤ 1048576) (h : fofB rows zs cs n xs = true) :
    Calls Try.prog 40 #[.agg #[.slice a rows.length c, .slice a' zs.length c'], .slice e cs.length d, .int .i64 n, .slice x xs.length q] w (RetNB (force rows zs cs n xs) true w) := by
  have Hhr := Lib.hid hr
  have Hhz := Lib.hid hz
  have Hhc := Lib.hid hc
  have Hhx := Lib.hid hx
  have Hhm := Lib.hid hm
  clear hr hz hc hx hm
  obtain ⟨hcb, hfb⟩ := (fofB_iff _ _ _ _ _).1 h
  have HFO := Lib.hid (forced_of hcb hfb)
  have HC := Lib.hid hcb
  have hf2 := (fitsB_iff _ _).1 hfb
  have HP := Lib.hid hf2.1
  clear h hcb hfb
  by_cases h0 : rows.length = 0
  · have i0 : ¬ (0 : Int) < (rows.length : Int) := by omega
    have i1 : decide ((0 : Int) < (rows.length : Int)) = false := by simpa using i0
    clear h0 hf2
    go_enter Try.func40, Try.ntmps40
    obtain ⟨wb1, hw1⟩ : ∃ wb1 : World, wb1 = w.alloc (.cells #[.slice a rows.length c, .slice a' zs.length c'] 29) := ⟨_, rfl⟩
    have z1 : wb1.heap.size = w.heap.size + 1 := by rw [hw1]; simp
    have x0_0 := (by rw [hw1]; exact cell_new _ _ _ rfl rfl : wb1.cell? ⟨w.heap.size, 0, none⟩ = some (.slice a rows.length c))
    have x0_1 := (by rw [hw1]; exact cell_new _ _ _ rfl rfl : wb1.cell? ⟨w.heap.size, 1, none⟩ = some (.slice a' zs.length c'))
    have HB0 := Lib.hid (show Below w.heap.size w wb1 by rw [hw1]; exact (Below.refl w.heap.size w).alloc (Nat.le_refl _) _)
    have s1 : w.heap.size + 1 ≤ wb1.heap.size := by omega
    have HZ1 := Lib.hid z1
    clear z1
    go_wp2_with fail
    rw [← hw1]
    clear hw1
    refine (spec_cnt _ rows c a' zs c' e cs d n wb1 (Hhr.out.below HB0.out) (Hhz.out.below HB0.out) (Hhc.out.below HB0.out) hn hk Hhm.out hcn true HC).mono ?_
    rintro e' w2 ⟨rfl, hb⟩
    replace x0_0 := cell_below hb x0_0 (by omega)
    replace x0_1 := cell_below hb x0_1 (by omega)
    have HB2 := Lib.hid (HB0.out.trans (hb.mono HB0.out.size))
    have s2 := hb.size
    clear hb
    go_wp2_with fail
    refine (spec_point x xs q w2 (Hhx.out.below HB2.out) hxn true HP).mono ?_
    rintro e' w' ⟨rfl, rfl⟩
    go_wp2_with fail
    refine (spec_force _ rows c a' zs c' e cs d n x xs q w2 (Hhr.out.below HB2.out) (Hhz.out.below HB2.out) (Hhc.out.below HB2.out) (Hhx.out.below HB2.out) HFO.out).mono ?_
    rintro e' w9 ⟨rfl, hb⟩
    have HB9 := Lib.hid (HB2.out.trans (hb.mono HB2.out.size))
    clear hb
    go_wp2_with fail
    go_ret2
    exact ⟨rfl, HB9.out⟩
  · have i0 : (0 : Int) < (rows.length : Int) := by omega
    have i1 : decide ((0 : Int) < (rows.length : Int)) = true := by simpa using i0
    have hw0 := Hhm.out (rows.getD 0 []) (getD_mem rows [] 0 (by omega))
    have hl9 : (rows.getD 0 []).length = xs.length := (hf2.2.resolve_left h0).symm
    have g9 : (((rows.getD 0 []).length : Int) != (xs.length : Int)) = false := by rw [bne, len_beq]; simpa using hl9
    clear h0 hf2 hl9
    obtain ⟨bl, off, rp, rq, hab, hbl, hc0, hpq, hrow⟩ := Hhr.out.at (k := 0) (by omega)
    rw [show off + 0 = off by omega] at hc0
    clear hrow hpq
    subst hab
    generalize rows.getD 0 [] = r0 at *
    go_enter Try.func40, Try.ntmps40
    obtain ⟨wb1, hw1⟩ : ∃ wb1 : World, wb1 = w.alloc (.cells #[.slice (some ⟨bl, off, none⟩) rows.length c, .slice a' zs.length c'] 29) := ⟨_, rfl⟩
    have z1 : wb1.heap.size = w.heap.size + 1 := by rw [hw1]; simp
    have x0_0 := (by rw [hw1]; exact cell_new _ _ _ rfl rfl : wb1.cell? ⟨w.heap.size, 0, none⟩ = some (.slice (some ⟨bl, off, none⟩) rows.length c))
    have x0_1 := (by rw [hw1]; exact cell_new _ _ _ rfl rfl : wb1.cell? ⟨w.heap.size, 1, none⟩ = some (.slice a' zs.length c'))
    have HB0 := Lib.hid (show Below w.heap.size w wb1 by rw [hw1]; exact (Below.refl w.heap.size w).alloc (Nat.le_refl _) _)
    have s1 : w.heap.size + 1 ≤ wb1.heap.size := by omega
    have HZ1 := Lib.hid z1
    clear z1
    go_wp2_with fail
    rw [← hw1]
    clear hw1
    refine (spec_cnt _ rows c a' zs c' e cs d n wb1 (Hhr.out.below HB0.out) (Hhz.out.below HB0.out) (Hhc.out.below HB0.out) hn hk Hhm.out hcn true HC).mono ?_
    rintro e' w2 ⟨rfl, hb⟩
    replace x0_0 := cell_below hb x0_0 (by omega)
    replace x0_1 := cell_below hb x0_1 (by omega)
    have HB2 := Lib.hid (HB0.out.trans (hb.mono HB0.out.size))
    have s2 := hb.size
    clear hb
    go_wp2_with fail
    replace hc0 := cell_below HB2.out hc0 hbl
    refine (spec_point x xs q w2 (Hhx.out.below HB2.out) hxn true HP).mono ?_
    rintro e' w' ⟨rfl, rfl⟩
    go_wp2_with fail
    refine (spec_force _ rows c a' zs c' e cs d n x xs q w2 (Hhr.out.below HB2.out) (Hhz.out.below HB2.out) (Hhc.out.below HB2.out) (Hhx.out.below HB2.out) HFO.out).mono ?_
    rintro e' w9 ⟨rfl, hb⟩
    have HB9 := Lib.hid (HB2.out.trans (hb.mono HB2.out.size))
    clear hb
    go_wp2_with fail
    go_ret2
    exact ⟨rfl, HB9.out⟩
set_option maxRecDepth 100000 in
set_option maxHeartbeats 1600000 in
theorem impl_fof_no (a : Option Addr) (rows : List (List Int)) (c : Nat) (a' : Option Addr) (zs : List Int) (c' : Nat) (e : Option Addr) (cs : List Int) (d : Nat) (n : Int) (x : Option Addr) (xs : List Int) (q : Nat) (w : World) (hr : grid.Reads w a rows) (hz : ints.Reads .i64 w a' zs) (hc : ints.Reads .i64 w e cs) (hx : ints.Reads .i64 w x xs) (hn : rows.length ≤ 1048576) (hk : zs.length ≤ 1048576) (hm : ∀ r ∈ rows, r.length ≤ 1048576) (hcn : cs.length ≤ 1048576) (hxn : xs.length ≤ 1048576) (h : fofB rows zs cs n xs = false) :
    Calls Try.prog 41 #[.agg #[.slice a rows.length c, .slice a' zs.length c'], .slice e cs.length d, .int .i64 n, .slice x xs.length q] w (RetNB 0 false w) := by
  have Hhr := Lib.hid hr
  have Hhz := Lib.hid hz
  have Hhc := Lib.hid hc
  have Hhx := Lib.hid hx
  have Hhm := Lib.hid hm
  clear hr hz hc hx hm
  cases hcb : cntB rows zs cs n
  · have HC := Lib.hid hcb
    clear h hcb
    go_enter Try.func41, Try.ntmps41
    obtain ⟨wb1, hw1⟩ : ∃ wb1 : World, wb1 = w.alloc (.cells #[.slice a rows.length c, .slice a' zs.length c'] 29) := ⟨_, rfl⟩
    have z1 : wb1.heap.size = w.heap.size + 1 := by rw [hw1]; simp
    have x0_0 := (by rw [hw1]; exact cell_new _ _ _ rfl rfl : wb1.cell? ⟨w.heap.size, 0, none⟩ = some (.slice a rows.length c))
    have x0_1 := (by rw [hw1]; exact cell_new _ _ _ rfl rfl : wb1.cell? ⟨w.heap.size, 1, none⟩ = some (.slice a' zs.length c'))
    have HB0 := Lib.hid (show Below w.heap.size w wb1 by rw [hw1]; exact (Below.refl w.heap.size w).alloc (Nat.le_refl _) _)
    have s1 : w.heap.size + 1 ≤ wb1.heap.size := by omega
    have HZ1 := Lib.hid z1
    clear z1
    go_wp2_with fail
    rw [← hw1]
    clear hw1
    refine (impl_cnt _ rows c a' zs c' e cs d n wb1 (Hhr.out.below HB0.out) (Hhz.out.below HB0.out) (Hhc.out.below HB0.out) hn hk Hhm.out hcn false HC).mono ?_
    rintro e' w2 ⟨rfl, hb⟩
    replace x0_0 := cell_below hb x0_0 (by omega)
    replace x0_1 := cell_below hb x0_1 (by omega)
    have HB2 := Lib.hid (HB0.out.trans (hb.mono HB0.out.size))
    have s2 := hb.size
    clear hb
    go_wp2_with fail
    go_ret2
    exact ⟨rfl, HB2.out⟩
  have HC := Lib.hid hcb
  have HT := Lib.hid (show fitsB rows xs = false by rw [← h]; unfold fofB; rw [hcb, Bool.true_and])
  clear h hcb
  go_enter Try.func41, Try.ntmps41
  obtain ⟨wb1, hw1⟩ : ∃ wb1 : World, wb1 = w.alloc (.cells #[.slice a rows.length c, .slice a' zs.length c'] 29) := ⟨_, rfl⟩
  have z1 : wb1.heap.size = w.heap.size + 1 := by rw [hw1]; simp
  have x0_0 := (by rw [hw1]; exact cell_new _ _ _ rfl rfl : wb1.cell? ⟨w.heap.size, 0, none⟩ = some (.slice a rows.length c))
  have x0_1 := (by rw [hw1]; exact cell_new _ _ _ rfl rfl : wb1.cell? ⟨w.heap.size, 1, none⟩ = some (.slice a' zs.length c'))
  have HB0 := Lib.hid (show Below w.heap.size w wb1 by rw [hw1]; exact (Below.refl w.heap.size w).alloc (Nat.le_refl _) _)
  have s1 : w.heap.size + 1 ≤ wb1.heap.size := by omega
  have HZ1 := Lib.hid z1
  clear z1
  go_wp2_with fail
  rw [← hw1]
  clear hw1
  refine (impl_cnt _ rows c a' zs c' e cs d n wb1 (Hhr.out.below HB0.out) (Hhz.out.below HB0.out) (Hhc.out.below HB0.out) hn hk Hhm.out hcn true HC).mono ?_
  rintro e' w2 ⟨rfl, hb⟩
  replace x0_0 := cell_below hb x0_0 (by omega)
  replace x0_1 := cell_below hb x0_1 (by omega)
  have HB2 := Lib.hid (HB0.out.trans (hb.mono HB0.out.size))
  have s2 := hb.size
  clear hb
  go_wp2_with fail
  refine (nlabi.impl_for a rows c a' zs c' x xs q w2 (Hhr.out.below HB2.out) (Hhx.out.below HB2.out) hn hxn Hhm.out false HT).mono ?_
  rintro e' w3 ⟨rfl, hb⟩
  replace x0_0 := cell_below hb x0_0 (by omega)
  replace x0_1 := cell_below hb x0_1 (by omega)
  have HB3 := Lib.hid (HB2.out.trans (hb.mono HB2.out.size))
  clear hb
  go_wp2_with fail
  go_ret2
  exact ⟨rfl, HB3.out⟩
set_option maxRecDepth 100000 in
set_option maxHeartbeats 1600000 in
theorem impl_fof_yes (a : Option Addr) (rows : List (List Int)) (c : Nat) (a' : Option Addr) (zs : List Int) (c' : Nat) (e : Option Addr) (cs : List Int) (d : Nat) (n : Int) (x : Option Addr) (xs : List Int) (q : Nat) (w : World) (hr : grid.Reads w a rows) (hz : ints.Reads .i64 w a' zs) (hc : ints.Reads .i64 w e cs) (hx : ints.Reads .i64 w x xs) (hn : rows.length ≤ 1048576) (hk : zs.length ≤ 1048576) (hm : ∀ r ∈ rows, r.length ≤ 1048576) (hcn : cs.length ≤ 1048576) (hxn : xs.length ≤ 1048576) (h : fofB rows zs cs n xs = true) :
    Calls Try.prog 41 #[.agg #[.slice a rows.length c, .slice a' zs.length c'], .slice e cs.length d, .int .i64 n, .slice x xs.length q] w (RetNB (force rows zs cs n xs) true w) := by
  have Hhr := Lib.hid hr
  have Hhz := Lib.hid hz
  have Hhc := Lib.hid hc
  have Hhx := Lib.hid hx
  have Hhm := Lib.hid hm
  clear hr hz hc hx hm
  obtain ⟨hcb, hfb⟩ := (fofB_iff _ _ _ _ _).1 h
  have HFO := Lib.hid (forced_of hcb hfb)
  have HC := Lib.hid hcb
  have HT := Lib.hid hfb
  clear h hcb hfb
  go_enter Try.func41, Try.ntmps41
  obtain ⟨wb1, hw1⟩ : ∃ wb1 : World, wb1 = w.alloc (.cells #[.slice a rows.length c, .slice a' zs.length c'] 29) := ⟨_, rfl⟩
  have z1 : wb1.heap.size = w.heap.size + 1 := by rw [hw1]; simp
  have x0_0 := (by rw [hw1]; exact cell_new _ _ _ rfl rfl : wb1.cell? ⟨w.heap.size, 0, none⟩ = some (.slice a rows.length c))
  have x0_1 := (by rw [hw1]; exact cell_new _ _ _ rfl rfl : wb1.cell? ⟨w.heap.size, 1, none⟩ = some (.slice a' zs.length c'))
  have HB0 := Lib.hid (show Below w.heap.size w wb1 by rw [hw1]; exact (Below.refl w.heap.size w).alloc (Nat.le_refl _) _)
  have s1 : w.heap.size + 1 ≤ wb1.heap.size := by omega
  have HZ1 := Lib.hid z1
  clear z1
  go_wp2_with fail
  rw [← hw1]
  clear hw1
  refine (impl_cnt _ rows c a' zs c' e cs d n wb1 (Hhr.out.below HB0.out) (Hhz.out.below HB0.out) (Hhc.out.below HB0.out) hn hk Hhm.out hcn true HC).mono ?_
  rintro e' w2 ⟨rfl, hb⟩
  replace x0_0 := cell_below hb x0_0 (by omega)
  replace x0_1 := cell_below hb x0_1 (by omega)
  have HB2 := Lib.hid (HB0.out.trans (hb.mono HB0.out.size))
  have s2 := hb.size
  clear hb
  go_wp2_with fail
  refine (nlabi.impl_for a rows c a' zs c' x xs q w2 (Hhr.out.below HB2.out) (Hhx.out.below HB2.out) hn hxn Hhm.out true HT).mono ?_
  rintro e' w3 ⟨rfl, hb⟩
  replace x0_0 := cell_below hb x0_0 (by omega)
  replace x0_1 := cell_below hb x0_1 (by omega)
  have HB3 := Lib.hid (HB2.out.trans (hb.mono HB2.out.size))
  clear hb
  go_wp2_with fail
  refine (impl_force _ rows c a' zs c' e cs d n x xs q w3 (Hhr.out.below HB3.out) (Hhz.out.below HB3.out) (Hhc.out.below HB3.out) (Hhx.out.below HB3.out) HFO.out).mono ?_
  rintro e' w9 ⟨rfl, hb⟩
  have HB9 := Lib.hid (HB3.out.trans (hb.mono HB3.out.size))
  clear hb
  go_wp2_with fail
  go_ret2
  exact ⟨rfl, HB9.out⟩
set_option maxRecDepth 100000 in
set_option maxHeartbeats 1600000 in
theorem spec_ksq_no (a : Option Addr) (rows : List (List Int)) (c : Nat) (a' : Option Addr) (zs : List Int) (c' : Nat) (e : Option Addr) (cs : List Int) (d : Nat) (n : Int) (w : World) (hr : grid.Reads w a rows) (hz : ints.Reads .i64 w a' zs) (hc : ints.Reads .i64 w e cs) (hn : rows.length ≤ 1048576) (hk : zs.length ≤ 1048576) (hm : ∀ r ∈ rows, r.length ≤ 1048576) (hcn : cs.length ≤ 1048576) (h : cntB rows zs cs n = false) :
    Calls Try.prog 46 #[.agg #[.slice a rows.length c, .slice a' zs.length c'], .slice e cs.length d, .int .i64 n] w (RetNB 0 false w) := by
  have Hhr := Lib.hid hr
  have Hhz := Lib.hid hz
  have Hhc := Lib.hid hc
  have Hhm := Lib.hid hm
  clear hr hz hc hm
  have HC := Lib.hid h
  clear h
  go_enter Try.func46, Try.ntmps46
  obtain ⟨wb1, hw1⟩ : ∃ wb1 : World, wb1 = w.alloc (.cells #[.slice a rows.length c, .slice a' zs.length c'] 29) := ⟨_, rfl⟩
  have z1 : wb1.heap.size = w.heap.size + 1 := by rw [hw1]; simp
  have x0_0 := (by rw [hw1]; exact cell_new _ _ _ rfl rfl : wb1.cell? ⟨w.heap.size, 0, none⟩ = some (.slice a rows.length c))
  have x0_1 := (by rw [hw1]; exact cell_new _ _ _ rfl rfl : wb1.cell? ⟨w.heap.size, 1, none⟩ = some (.slice a' zs.length c'))
  have HB0 := Lib.hid (show Below w.heap.size w wb1 by rw [hw1]; exact (Below.refl w.heap.size w).alloc (Nat.le_refl _) _)
  have s1 : w.heap.size + 1 ≤ wb1.heap.size := by omega
  have HZ1 := Lib.hid z1
  clear z1
  go_wp2_with fail
  rw [← hw1]
  clear hw1
  refine (spec_cnt _ rows c a' zs c' e cs d n wb1 (Hhr.out.below HB0.out) (Hhz.out.below HB0.out) (Hhc.out.below HB0.out) hn hk Hhm.out hcn false HC).mono ?_
  rintro e' w2 ⟨rfl, hb⟩
  replace x0_0 := cell_below hb x0_0 (by omega)
  replace x0_1 := cell_below hb x0_1 (by omega)
  have HB2 := Lib.hid (HB0.out.trans (hb.mono HB0.out.size))
  have s2 := hb.size
  clear hb
  go_wp2_with fail
  go_ret2
  exact ⟨rfl, HB2.out⟩
set_option maxRecDepth 100000 in
set_option maxHeartbeats 1600000 in
theorem spec_ksq_yes (a : Option Addr) (rows : List (List Int)) (c : Nat) (a' : Option Addr) (zs : List Int) (c' : Nat) (e : Option Addr) (cs : List Int) (d : Nat) (n : Int) (w : World) (hr : grid.Reads w a rows) (hz : ints.Reads .i64 w a' zs) (hc : ints.Reads .i64 w e cs) (hn : rows.length ≤ 1048576) (hk : zs.length ≤ 1048576) (hm : ∀ r ∈ rows, r.length ≤ 1048576) (hcn : cs.length ≤ 1048576) (h : cntB rows zs cs n = true) :
    Calls Try.prog 46 #[.agg #[.slice a rows.length c, .slice a' zs.length c'], .slice e cs.length d, .int .i64 n] w (RetNB (ksqTo rows zs cs n rows.length) true w) := by
  have Hhr := Lib.hid hr
  have Hhz := Lib.hid hz
  have Hhc := Lib.hid hc
  have Hhm := Lib.hid hm
  clear hr hz hc hm
  have HC := Lib.hid h
  have hl16 := ((sampleB_iff _ _).1 ((cntB_iff _ _ _ _).1 h).1).1
  have HLZ := Lib.hid ((sampleB_iff _ _).1 ((cntB_iff _ _ _ _).1 h).1).2.1
  have HLC := Lib.hid ((cntB_iff _ _ _ _).1 h).2.1
  clear h
  go_enter Try.func46, Try.ntmps46
  obtain ⟨wb1, hw1⟩ : ∃ wb1 : World, wb1 = w.alloc (.cells #[.slice a rows.length c, .slice a' zs.length c'] 29) := ⟨_, rfl⟩
  have z1 : wb1.heap.size = w.heap.size + 1 := by rw [hw1]; simp
  have x0_0 := (by rw [hw1]; exact cell_new _ _ _ rfl rfl : wb1.cell? ⟨w.heap.size, 0, none⟩ = some (.slice a rows.length c))
  have x0_1 := (by rw [hw1]; exact cell_new _ _ _ rfl rfl : wb1.cell? ⟨w.heap.size, 1, none⟩ = some (.slice a' zs.length c'))
  have HB0 := Lib.hid (show Below w.heap.size w wb1 by rw [hw1]; exact (Below.refl w.heap.size w).alloc (Nat.le_refl _) _)
  have s1 : w.heap.size + 1 ≤ wb1.heap.size := by omega
  have HZ1 := Lib.hid z1
  clear z1
  go_wp2_with fail
  rw [← hw1]
  clear hw1
  refine (spec_cnt _ rows c a' zs c' e cs d n wb1 (Hhr.out.below HB0.out) (Hhz.out.below HB0.out) (Hhc.out.below HB0.out) hn hk Hhm.out hcn true HC).mono ?_
  rintro e' w2 ⟨rfl, hb⟩
  replace x0_0 := cell_below hb x0_0 (by omega)
  replace x0_1 := cell_below hb x0_1 (by omega)
  have HB2 := Lib.hid (HB0.out.trans (hb.mono HB0.out.size))
  have s2 := hb.size
  clear hb
  go_wp2_with fail
  go_loopw [8, 9] (fun s i wr => ∃ k : Nat, k ≤ rows.length ∧ i = .int .i64 k ∧ s = .int .i64 (ksqTo rows zs cs n k) ∧ Below w2.heap.size w2 wr) (fun _ i _ => rows.length - (intOf i).toNat)
  case atStart => exact ⟨0, Nat.zero_le _, rfl, rfl, Below.refl _ _⟩
  case round =>
    obtain ⟨k, hk9, rfl, rfl, hbel⟩ := hrel
    have hsz := hbel.size
    replace x0_0 := cell_below hbel x0_0 (by omega)
    replace x0_1 := cell_below hbel x0_1 (by omega)
    by_cases hlt : k < rows.length
    · obtain ⟨bl, off, rp, rq, hab, hbl, hc, hpq, hrow⟩ := (Hhr.out.below HB2.out).at hlt
      subst hab
      replace hc := cell_below hbel hc (by omega)
      obtain ⟨lb, lo, hlb, hll, hlc⟩ := (Hhz.out.below HB2.out).at (k := k) (by have := HLZ.out; omega)
      subst hlb
      replace hlc := cell_below hbel hlc (by omega)
      obtain ⟨be, bo, hbe, hle, hcc⟩ := (Hhc.out.below HB2.out).at (k := k) (by have := HLC.out; omega)
      subst hbe
      replace hcc := cell_below hbel hcc (by omega)
      obtain ⟨h7, h8⟩ := term_bd HC.out k hlt
      have hfb := ksq_bd HC.out k (by omega)
      have hF := forced_row HC.out k hlt
      have HBb := Lib.hid (HB2.out.trans (hbel.mono HB2.out.size))
      replace hrow := hrow.below hbel
      have HCK := Lib.hid (show ∀ wa : World, Below wr.heap.size wr wa → Calls Try.prog 97 #[.agg #[.slice (some ⟨bl, off, none⟩) rows.length c, .slice (some ⟨lb, lo, none⟩) zs.length c'], .slice (some ⟨be, bo, none⟩) cs.length d, .int .i64 n, .slice rp (rows.getD k []).length rq] wa (RetN (force rows zs cs n (rows.getD k [])) wa) from fun wa hb => spec_force _ rows c _ zs c' _ cs d n rp _ rq wa ((Hhr.out.below HBb.out).below hb) ((Hhz.out.below HBb.out).below hb) ((Hhc.out.below HBb.out).below hb) (hrow.below hb) hF)
      have HT := Lib.hid (show ksqTo rows zs cs n (k + 1) = ksqTo rows zs cs n k + cs.getD k 0 * zs.getD k 0 * force rows zs cs n (rows.getD k []) from rfl)
      have HBl := Lib.hid hbel
      have i1 : (0 : Int) ≤ (k : Int) := by omega
      have i2 : (k : Int) < (rows.length : Int) := by omega
      have i3 : (k : Int) < (zs.length : Int) := by have := HLZ.out; omega
      have i4 : (k : Int) < (cs.length : Int) := by have := HLC.out; omega
      clear hbel hrow hpq hF
      generalize force rows zs cs n (rows.getD k []) = K at *
      generalize rows.getD k [] = r at *
      generalize zs.getD k 0 = z at *
      generalize cs.getD k 0 = y at *
      generalize ksqTo rows zs cs n k = s at *
      have e1 : IntKind.i64.wrap (y * z) = y * z := IntWalk.i64_in _ (by omega)
      have e2 : IntKind.i64.wrap (y * z * K) = y * z * K := IntWalk.i64_in _ (by omega)
      have e3 : IntKind.i64.wrap (s + y * z * K) = s + y * z * K := IntWalk.i64_in _ (by omega)
      clear h7 h8 hfb
      go_wp2_with fail
      refine wp_region_noPanic ?_
      refine wp_region_held_drew (S := fun w' => w'.cell? ⟨w.heap.size, 0, none⟩ = some (.slice (some ⟨bl, off, none⟩) rows.length c) ∧ w'.cell? ⟨w.heap.size, 1, none⟩ = some (.slice (some ⟨lb, lo, none⟩) zs.length c') ∧ w'.cell? ⟨bl, off + k, none⟩ = some (.slice rp r.length rq) ∧ w'.cell? ⟨lb, lo + k, none⟩ = some (.int .i64 z) ∧ w'.cell? ⟨be, bo + k, none⟩ = some (.int .i64 y)) (by kernel_rfl) ?_ (fun hHeld => ?_)
      · exact ⟨x0_0, x0_1, hc, hlc, hcc⟩
      refine wpAnyH_take (i := 0) (v := ?_) rfl (by kernel_rfl) (by kernel_rfl) (by kernel_rfl) (fun _ _ _ h => h) (Or.inl ⟨by rfl, ?_⟩) (by assumption) ?_
      rotate_left
      · intro w9 hSw; (try dsimp only at hSw); go_simp; try with_reducible rfl
      try simp only [List.getElem_toArray, List.getElem_cons_succ, List.getElem_cons_zero, Act.put, List.setIfInBounds_toArray, List.set_cons_zero, List.set_cons_succ]
      refine wpAnyH_take (i := 1) (v := ?_) rfl (by kernel_rfl) (by kernel_rfl) (by kernel_rfl) (fun _ _ _ h => h) (Or.inl ⟨by rfl, ?_⟩) (by assumption) ?_
      rotate_left
      · intro w9 hSw; (try dsimp only at hSw); go_simp; try with_reducible rfl
      try simp only [List.getElem_toArray, List.getElem_cons_succ, List.getElem_cons_zero, Act.put, List.setIfInBounds_toArray, List.set_cons_zero, List.set_cons_succ]
      refine wpAnyH_take (i := 2) (v := ?_) rfl (by kernel_rfl) (by kernel_rfl) (by kernel_rfl) (fun _ _ _ h => h) (Or.inl ⟨by rfl, ?_⟩) (by assumption) ?_
      rotate_left
      · intro w9 hSw; (try dsimp only at hSw); go_simp; try with_reducible rfl
      try simp only [List.getElem_toArray, List.getElem_cons_succ, List.getElem_cons_zero, Act.put, List.setIfInBounds_toArray, List.set_cons_zero, List.set_cons_succ]
      refine wpAnyH_take (i := 3) (v := ?_) rfl (by kernel_rfl) (by kernel_rfl) (by kernel_rfl) (fun _ _ _ h => h) (Or.inl ⟨by rfl, ?_⟩) (by assumption) ?_
      rotate_left
      · intro w9 hSw; (try dsimp only at hSw); go_simp; try with_reducible rfl
      try simp only [List.getElem_toArray, List.getElem_cons_succ, List.getElem_cons_zero, Act.put, List.setIfInBounds_toArray, List.set_cons_zero, List.set_cons_succ]
      refine wpAnyH_take (i := 4) (v := ?_) rfl (by kernel_rfl) (by kernel_rfl) (by kernel_rfl) (fun _ _ _ h => h) (Or.inl ⟨by rfl, ?_⟩) (by assumption) ?_
      rotate_left
      · intro w9 hSw; (try dsimp only at hSw); go_simp; try with_reducible rfl
      try simp only [List.getElem_toArray, List.getElem_cons_succ, List.getElem_cons_zero, Act.put, List.setIfInBounds_toArray, List.set_cons_zero, List.set_cons_succ]
      refine wpAnyH_take (i := 5) (v := ?_) rfl (by kernel_rfl) (by kernel_rfl) (by kernel_rfl) (fun _ _ _ h => h) (Or.inl ⟨by rfl, ?_⟩) (by assumption) ?_
      rotate_left
      · intro w9 hSw; (try dsimp only at hSw); go_simp; try with_reducible rfl
      try simp only [List.getElem_toArray, List.getElem_cons_succ, List.getElem_cons_zero, Act.put, List.setIfInBounds_toArray, List.set_cons_zero, List.set_cons_succ]
      refine wpAnyH_take (i := 6) (v := ?_) rfl (by kernel_rfl) (by kernel_rfl) (by kernel_rfl) (fun _ _ _ h => h) (Or.inl ⟨by rfl, ?_⟩) (by assumption) ?_
      rotate_left
      · intro w9 hSw; (try dsimp only at hSw); go_simp; try with_reducible rfl
      try simp only [List.getElem_toArray, List.getElem_cons_succ, List.getElem_cons_zero, Act.put, List.setIfInBounds_toArray, List.set_cons_zero, List.set_cons_succ]
      refine wpAnyH_take (i := 7) (v := ?_) rfl (by kernel_rfl) (by kernel_rfl) (by kernel_rfl) (fun _ _ _ h => h) (Or.inl ⟨by rfl, ?_⟩) (by assumption) ?_
      rotate_left
      · intro w9 hSw; (try dsimp only at hSw); go_simp; try with_reducible rfl
      try simp only [List.getElem_toArray, List.getElem_cons_succ, List.getElem_cons_zero, Act.put, List.setIfInBounds_toArray, List.set_cons_zero, List.set_cons_succ]
      refine wpAnyH_take (i := 8) (v := ?_) rfl (by kernel_rfl) (by kernel_rfl) (by kernel_rfl) (fun _ _ _ h => h) (Or.inl ⟨by rfl, ?_⟩) (by assumption) ?_
      rotate_left
      · intro w9 hSw; (try dsimp only at hSw); go_simp; try with_reducible rfl
      try simp only [List.getElem_toArray, List.getElem_cons_succ, List.getElem_cons_zero, Act.put, List.setIfInBounds_toArray, List.set_cons_zero, List.set_cons_succ]
      refine wpAnyH_take (i := 9) (v := ?_) rfl (by kernel_rfl) (by kernel_rfl) (by kernel_rfl) (fun _ _ _ h => h) (Or.inl ⟨by rfl, ?_⟩) (by assumption) ?_
      rotate_left
      · intro w9 hSw; (try dsimp only at hSw); go_simp; try with_reducible rfl
      try simp only [List.getElem_toArray, List.getElem_cons_succ, List.getElem_cons_zero, Act.put, List.setIfInBounds_toArray, List.set_cons_zero, List.set_cons_succ]
      refine wpAnyH_take (i := 10) (v := ?_) rfl (by kernel_rfl) (by kernel_rfl) (by kernel_rfl) (fun _ _ _ h => h) (Or.inl ⟨by rfl, ?_⟩) (by assumption) ?_
      rotate_left
      · intro w9 hSw; (try dsimp only at hSw); go_simp; try with_reducible rfl
      try simp only [List.getElem_toArray, List.getElem_cons_succ, List.getElem_cons_zero, Act.put, List.setIfInBounds_toArray, List.set_cons_zero, List.set_cons_succ]
      refine wpAnyH_take (i := 11) (v := ?_) rfl (by kernel_rfl) (by kernel_rfl) (by kernel_rfl) (fun _ _ _ h => h) (Or.inl ⟨by rfl, ?_⟩) (by assumption) ?_
      rotate_left
      · intro w9 hSw; (try dsimp only at hSw); go_simp; try with_reducible rfl
      try simp only [List.getElem_toArray, List.getElem_cons_succ, List.getElem_cons_zero, Act.put, List.setIfInBounds_toArray, List.set_cons_zero, List.set_cons_succ]
      refine wpAnyH_take (i := 12) (v := ?_) rfl (by kernel_rfl) (by kernel_rfl) (by kernel_rfl) (fun _ _ _ h => h) (Or.inl ⟨by rfl, ?_⟩) (by assumption) ?_
      rotate_left
      · intro w9 hSw; (try dsimp only at hSw); go_simp; try with_reducible rfl
      try simp only [List.getElem_toArray, List.getElem_cons_succ, List.getElem_cons_zero, Act.put, List.setIfInBounds_toArray, List.set_cons_zero, List.set_cons_succ]
      refine wpAnyH_take (i := 13) (v := ?_) rfl (by kernel_rfl) (by kernel_rfl) (by kernel_rfl) (fun _ _ _ h => h) (Or.inl ⟨by rfl, ?_⟩) (by assumption) ?_
      rotate_left
      · intro w9 hSw; (try dsimp only at hSw); go_simp; try with_reducible rfl
      try simp only [List.getElem_toArray, List.getElem_cons_succ, List.getElem_cons_zero, Act.put, List.setIfInBounds_toArray, List.set_cons_zero, List.set_cons_succ]
      refine wpAnyH_take (i := 14) (v := ?_) rfl (by kernel_rfl) (by kernel_rfl) (by kernel_rfl) (fun _ _ _ h => h) (Or.inl ⟨by rfl, ?_⟩) (by assumption) ?_
      rotate_left
      · intro w9 hSw; (try dsimp only at hSw); go_simp; try with_reducible rfl
      try simp only [List.getElem_toArray, List.getElem_cons_succ, List.getElem_cons_zero, Act.put, List.setIfInBounds_toArray, List.set_cons_zero, List.set_cons_succ]
      refine wpAnyH_take (i := 15) (v := ?_) rfl (by kernel_rfl) (by kernel_rfl) (by kernel_rfl) (fun _ _ _ h => h) (Or.inl ⟨by rfl, ?_⟩) (by assumption) ?_
      rotate_left
      · intro w9 hSw; (try dsimp only at hSw); go_simp; try with_reducible rfl
      try simp only [List.getElem_toArray, List.getElem_cons_succ, List.getElem_cons_zero, Act.put, List.setIfInBounds_toArray, List.set_cons_zero, List.set_cons_succ]
      refine wpAnyH_take (i := 16) (v := ?_) rfl (by kernel_rfl) (by kernel_rfl) (by kernel_rfl) (fun _ _ _ h => h) (Or.inl ⟨by rfl, ?_⟩) (by assumption) ?_
      rotate_left
      · intro w9 hSw; (try dsimp only at hSw); go_simp; try with_reducible rfl
      try simp only [List.getElem_toArray, List.getElem_cons_succ, List.getElem_cons_zero, Act.put, List.setIfInBounds_toArray, List.set_cons_zero, List.set_cons_succ]
      refine wpAnyH_take (i := 17) (v := ?_) rfl (by kernel_rfl) (by kernel_rfl) (by kernel_rfl) (fun _ _ _ h => h) (Or.inl ⟨by rfl, ?_⟩) (by assumption) ?_
      rotate_left
      · intro w9 hSw; (try dsimp only at hSw); go_simp; try with_reducible rfl
      try simp only [List.getElem_toArray, List.getElem_cons_succ, List.getElem_cons_zero, Act.put, List.setIfInBounds_toArray, List.set_cons_zero, List.set_cons_succ]
      refine wpAnyH_take (i := 18) (v := ?_) rfl (by kernel_rfl) (by kernel_rfl) (by kernel_rfl) (fun _ _ _ h => h) (Or.inl ⟨by rfl, ?_⟩) (by assumption) ?_
      rotate_left
      · intro w9 hSw; (try dsimp only at hSw); go_simp; try with_reducible rfl
      try simp only [List.getElem_toArray, List.getElem_cons_succ, List.getElem_cons_zero, Act.put, List.setIfInBounds_toArray, List.set_cons_zero, List.set_cons_succ]
      refine wpAnyH_ready (rs := [19]) (by kernel_rfl) (by simp) ?_
      refine AllReadyH.cons rfl (fun K hK => ?_) AllReadyH.nil
      clear hHeld
      go_simp
      refine (HCK.out _ (Below.refl _ _).drew).mono ?_
      rintro e' v1 ⟨rfl, hb1⟩
      have HC1 := Lib.hid ((Below.refl wr.heap.size wr).drew.trans hb1)
      have m0 := cell_below HC1.out x0_0 (by omega)
      have m1 := cell_below HC1.out x0_1 (by omega)
      have m2 := cell_below HC1.out hc (by omega)
      have m3 := cell_below HC1.out hlc (by omega)
      have m4 := cell_below HC1.out hcc (by omega)
      clear hb1
      refine hK.out _ _ ?_ (fun hHeld => ?_)
      · exact ⟨m0, m1, m2, m3, m4⟩
      clear hK K
      try simp only [List.getElem_toArray, List.getElem_cons_succ, List.getElem_cons_zero, Act.put, List.setIfInBounds_toArray, List.set_cons_zero, List.set_cons_succ]
      refine wpAnyH_take (i := 20) (v := ?_) rfl (by kernel_rfl) (by kernel_rfl) (by kernel_rfl) (fun _ _ _ h => h) (Or.inl ⟨by rfl, ?_⟩) (by assumption) ?_
      rotate_left
      · intro w9 hSw; (try dsimp only at hSw); go_simp; try with_reducible rfl
      try simp only [List.getElem_toArray, List.getElem_cons_succ, List.getElem_cons_zero, Act.put, List.setIfInBounds_toArray, List.set_cons_zero, List.set_cons_succ]
      refine wpAnyH_take (i := 21) (v := ?_) rfl (by kernel_rfl) (by kernel_rfl) (by kernel_rfl) (fun _ _ _ h => h) (Or.inl ⟨by rfl, ?_⟩) (by assumption) ?_
      rotate_left
      · intro w9 hSw; (try dsimp only at hSw); go_simp; try with_reducible rfl
      try simp only [List.getElem_toArray, List.getElem_cons_succ, List.getElem_cons_zero, Act.put, List.setIfInBounds_toArray, List.set_cons_zero, List.set_cons_succ]
      refine wpAnyH_take (i := 22) (v := ?_) rfl (by kernel_rfl) (by kernel_rfl) (by kernel_rfl) (fun _ _ _ h => h) (Or.inl ⟨by rfl, ?_⟩) (by assumption) ?_
      rotate_left
      · intro w9 hSw; (try dsimp only at hSw); go_simp; try with_reducible rfl
      try simp only [List.getElem_toArray, List.getElem_cons_succ, List.getElem_cons_zero, Act.put, List.setIfInBounds_toArray, List.set_cons_zero, List.set_cons_succ]
      refine wpAnyH_done (by kernel_rfl) ?_ _
      refine NoPanic.normal ?_
      go_wp2_with fail
      go_roundw
      case rel => exact ⟨k + 1, by omega, by go_num, by rw [HT.out], HBl.out.trans (HC1.out.mono hsz)⟩
      case measure => simp [intOf]; omega
    · obtain rfl : k = rows.length := by omega
      have HBl := Lib.hid (HB2.out.trans (hbel.mono HB2.out.size))
      have i4 : ¬ (rows.length : Int) < (cs.length : Int) := by have := HLC.out; omega
      clear hbel
      go_wp2_with fail
      go_ret2
      exact ⟨rfl, HBl.out⟩
set_option maxRecDepth 100000 in
set_option maxHeartbeats 1600000 in
theorem impl_ksq_no (a : Option Addr) (rows : List (List Int)) (c : Nat) (a' : Option Addr) (zs : List Int) (c' : Nat) (e : Option Addr) (cs : List Int) (d : Nat) (n : Int) (w : World) (hr : grid.Reads w a rows) (hz : ints.Reads .i64 w a' zs) (hc : ints.Reads .i64 w e cs) (hn : rows.length ≤ 1048576) (hk : zs.length ≤ 1048576) (hm : ∀ r ∈ rows, r.length ≤ 1048576) (hcn : cs.length ≤ 1048576) (h : cntB rows zs cs n = false) :
    Calls Try.prog 47 #[.agg #[.slice a rows.length c, .slice a' zs.length c'], .slice e cs.length d, .int .i64 n] w (RetNB 0 false w) := by
  have Hhr := Lib.hid hr
  have Hhz := Lib.hid hz
  have Hhc := Lib.hid hc
  have Hhm := Lib.hid hm
  clear hr hz hc hm
  have HC := Lib.hid h
  clear h
  go_enter Try.func47, Try.ntmps47
  obtain ⟨wb1, hw1⟩ : ∃ wb1 : World, wb1 = w.alloc (.cells #[.slice a rows.length c, .slice a' zs.length c'] 29) := ⟨_, rfl⟩
  have z1 : wb1.heap.size = w.heap.size + 1 := by rw [hw1]; simp
  have x0_0 := (by rw [hw1]; exact cell_new _ _ _ rfl rfl : wb1.cell? ⟨w.heap.size, 0, none⟩ = some (.slice a rows.length c))
  have x0_1 := (by rw [hw1]; exact cell_new _ _ _ rfl rfl : wb1.cell? ⟨w.heap.size, 1, none⟩ = some (.slice a' zs.length c'))
  have HB0 := Lib.hid (show Below w.heap.size w wb1 by rw [hw1]; exact (Below.refl w.heap.size w).alloc (Nat.le_refl _) _)
  have s1 : w.heap.size + 1 ≤ wb1.heap.size := by omega
  have HZ1 := Lib.hid z1
  clear z1
  go_wp2_with fail
  rw [← hw1]
  clear hw1
  refine (impl_cnt _ rows c a' zs c' e cs d n wb1 (Hhr.out.below HB0.out) (Hhz.out.below HB0.out) (Hhc.out.below HB0.out) hn hk Hhm.out hcn false HC).mono ?_
  rintro e' w2 ⟨rfl, hb⟩
  replace x0_0 := cell_below hb x0_0 (by omega)
  replace x0_1 := cell_below hb x0_1 (by omega)
  have HB2 := Lib.hid (HB0.out.trans (hb.mono HB0.out.size))
  have s2 := hb.size
  clear hb
  go_wp2_with fail
  go_ret2
  exact ⟨rfl, HB2.out⟩
set_option maxRecDepth 100000 in
set_option maxHeartbeats 1600000 in
theorem impl_ksq_yes (a : Option Addr) (rows : List (List Int)) (c : Nat) (a' : Option Addr) (zs : List Int) (c' : Nat) (e : Option Addr) (cs : List Int) (d : Nat) (n : Int) (w : World) (hr : grid.Reads w a rows) (hz : ints.Reads .i64 w a' zs) (hc : ints.Reads .i64 w e cs) (hn : rows.length ≤ 1048576) (hk : zs.length ≤ 1048576) (hm : ∀ r ∈ rows, r.length ≤ 1048576) (hcn : cs.length ≤ 1048576) (h : cntB rows zs cs n = true) :
    Calls Try.prog 47 #[.agg #[.slice a rows.length c, .slice a' zs.length c'], .slice e cs.length d, .int .i64 n] w (RetNB (ksqTo rows zs cs n rows.length) true w) := by
  have Hhr := Lib.hid hr
  have Hhz := Lib.hid hz
  have Hhc := Lib.hid hc
  have Hhm := Lib.hid hm
  clear hr hz hc hm
  have HC := Lib.hid h
  have hl16 := ((sampleB_iff _ _).1 ((cntB_iff _ _ _ _).1 h).1).1
  have HLZ := Lib.hid ((sampleB_iff _ _).1 ((cntB_iff _ _ _ _).1 h).1).2.1
  have HLC := Lib.hid ((cntB_iff _ _ _ _).1 h).2.1
  clear h
  go_enter Try.func47, Try.ntmps47
  obtain ⟨wb1, hw1⟩ : ∃ wb1 : World, wb1 = w.alloc (.cells #[.slice a rows.length c, .slice a' zs.length c'] 29) := ⟨_, rfl⟩
  have z1 : wb1.heap.size = w.heap.size + 1 := by rw [hw1]; simp
  have x0_0 := (by rw [hw1]; exact cell_new _ _ _ rfl rfl : wb1.cell? ⟨w.heap.size, 0, none⟩ = some (.slice a rows.length c))
  have x0_1 := (by rw [hw1]; exact cell_new _ _ _ rfl rfl : wb1.cell? ⟨w.heap.size, 1, none⟩ = some (.slice a' zs.length c'))
  have HB0 := Lib.hid (show Below w.heap.size w wb1 by rw [hw1]; exact (Below.refl w.heap.size w).alloc (Nat.le_refl _) _)
  have s1 : w.heap.size + 1 ≤ wb1.heap.size := by omega
  have HZ1 := Lib.hid z1
  clear z1
  go_wp2_with fail
  rw [← hw1]
  clear hw1
  refine (impl_cnt _ rows c a' zs c' e cs d n wb1 (Hhr.out.below HB0.out) (Hhz.out.below HB0.out) (Hhc.out.below HB0.out) hn hk Hhm.out hcn true HC).mono ?_
  rintro e' w2 ⟨rfl, hb⟩
  replace x0_0 := cell_below hb x0_0 (by omega)
  replace x0_1 := cell_below hb x0_1 (by omega)
  have HB2 := Lib.hid (HB0.out.trans (hb.mono HB0.out.size))
  have s2 := hb.size
  clear hb
  go_wp2_with fail
  go_loopw [8, 19] (fun s i wr => ∃ k : Nat, k ≤ rows.length ∧ i = .int .i64 k ∧ s = .int .i64 (ksqTo rows zs cs n k) ∧ Below w2.heap.size w2 wr) (fun _ i _ => rows.length - (intOf i).toNat)
  case atStart => exact ⟨0, Nat.zero_le _, rfl, rfl, Below.refl _ _⟩
  case round =>
    obtain ⟨k, hk9, rfl, rfl, hbel⟩ := hrel
    have hsz := hbel.size
    replace x0_0 := cell_below hbel x0_0 (by omega)
    replace x0_1 := cell_below hbel x0_1 (by omega)
    by_cases hlt : k < rows.length
    · obtain ⟨bl, off, rp, rq, hab, hbl, hc, hpq, hrow⟩ := (Hhr.out.below HB2.out).at hlt
      subst hab
      replace hc := cell_below hbel hc (by omega)
      obtain ⟨lb, lo, hlb, hll, hlc⟩ := (Hhz.out.below HB2.out).at (k := k) (by have := HLZ.out; omega)
      subst hlb
      replace hlc := cell_below hbel hlc (by omega)
      obtain ⟨be, bo, hbe, hle, hcc⟩ := (Hhc.out.below HB2.out).at (k := k) (by have := HLC.out; omega)
      subst hbe
      replace hcc := cell_below hbel hcc (by omega)
      obtain ⟨h7, h8⟩ := term_bd HC.out k hlt
      have hfb := ksq_bd HC.out k (by omega)
      have hF := forced_row HC.out k hlt
      have HBb := Lib.hid (HB2.out.trans (hbel.mono HB2.out.size))
      replace hrow := hrow.below hbel
      have HCK := Lib.hid (show ∀ wa : World, Below wr.heap.size wr wa → Calls Try.prog 100 #[.agg #[.slice (some ⟨bl, off, none⟩) rows.length c, .slice (some ⟨lb, lo, none⟩) zs.length c'], .slice (some ⟨be, bo, none⟩) cs.length d, .int .i64 n, .slice rp (rows.getD k []).length rq] wa (RetN (force rows zs cs n (rows.getD k [])) wa) from fun wa hb => impl_force _ rows c _ zs c' _ cs d n rp _ rq wa ((Hhr.out.below HBb.out).below hb) ((Hhz.out.below HBb.out).below hb) ((Hhc.out.below HBb.out).below hb) (hrow.below hb) hF)
      have HT := Lib.hid (show ksqTo rows zs cs n (k + 1) = ksqTo rows zs cs n k + cs.getD k 0 * zs.getD k 0 * force rows zs cs n (rows.getD k []) from rfl)
      have HBl := Lib.hid hbel
      have i1 : (0 : Int) ≤ (k : Int) := by omega
      have i2 : (k : Int) < (rows.length : Int) := by omega
      have i3 : (k : Int) < (zs.length : Int) := by have := HLZ.out; omega
      have i4 : (k : Int) < (cs.length : Int) := by have := HLC.out; omega
      clear hbel hrow hpq hF
      generalize force rows zs cs n (rows.getD k []) = K at *
      generalize rows.getD k [] = r at *
      generalize zs.getD k 0 = z at *
      generalize cs.getD k 0 = y at *
      generalize ksqTo rows zs cs n k = s at *
      have e1 : IntKind.i64.wrap (y * z) = y * z := IntWalk.i64_in _ (by omega)
      have e2 : IntKind.i64.wrap (y * z * K) = y * z * K := IntWalk.i64_in _ (by omega)
      have e3 : IntKind.i64.wrap (s + y * z * K) = s + y * z * K := IntWalk.i64_in _ (by omega)
      clear h7 h8 hfb
      go_wp2_with fail
      refine wp_region_noPanic ?_
      refine wp_region_held_drew (S := fun w' => w'.cell? ⟨w.heap.size, 0, none⟩ = some (.slice (some ⟨bl, off, none⟩) rows.length c) ∧ w'.cell? ⟨w.heap.size, 1, none⟩ = some (.slice (some ⟨lb, lo, none⟩) zs.length c') ∧ w'.cell? ⟨bl, off + k, none⟩ = some (.slice rp r.length rq) ∧ w'.cell? ⟨lb, lo + k, none⟩ = some (.int .i64 z) ∧ w'.cell? ⟨be, bo + k, none⟩ = some (.int .i64 y)) (by kernel_rfl) ?_ (fun hHeld => ?_)
      · exact ⟨x0_0, x0_1, hc, hlc, hcc⟩
      refine wpAnyH_take (i := 0) (v := ?_) rfl (by kernel_rfl) (by kernel_rfl) (by kernel_rfl) (fun _ _ _ h => h) (Or.inl ⟨by rfl, ?_⟩) (by assumption) ?_
      rotate_left
      · intro w9 hSw; (try dsimp only at hSw); go_simp; try with_reducible rfl
      try simp only [List.getElem_toArray, List.getElem_cons_succ, List.getElem_cons_zero, Act.put, List.setIfInBounds_toArray, List.set_cons_zero, List.set_cons_succ]
      refine wpAnyH_take (i := 1) (v := ?_) rfl (by kernel_rfl) (by kernel_rfl) (by kernel_rfl) (fun _ _ _ h => h) (Or.inl ⟨by rfl, ?_⟩) (by assumption) ?_
      rotate_left
      · intro w9 hSw; (try dsimp only at hSw); go_simp; try with_reducible rfl
      try simp only [List.getElem_toArray, List.getElem_cons_succ, List.getElem_cons_zero, Act.put, List.setIfInBounds_toArray, List.set_cons_zero, List.set_cons_succ]
      refine wpAnyH_take (i := 2) (v := ?_) rfl (by kernel_rfl) (by kernel_rfl) (by kernel_rfl) (fun _ _ _ h => h) (Or.inl ⟨by rfl, ?_⟩) (by assumption) ?_
      rotate_left
      · intro w9 hSw; (try dsimp only at hSw); go_simp; try with_reducible rfl
      try simp only [List.getElem_toArray, List.getElem_cons_succ, List.getElem_cons_zero, Act.put, List.setIfInBounds_toArray, List.set_cons_zero, List.set_cons_succ]
      refine wpAnyH_take (i := 3) (v := ?_) rfl (by kernel_rfl) (by kernel_rfl) (by kernel_rfl) (fun _ _ _ h => h) (Or.inl ⟨by rfl, ?_⟩) (by assumption) ?_
      rotate_left
      · intro w9 hSw; (try dsimp only at hSw); go_simp; try with_reducible rfl
      try simp only [List.getElem_toArray, List.getElem_cons_succ, List.getElem_cons_zero, Act.put, List.setIfInBounds_toArray, List.set_cons_zero, List.set_cons_succ]
      refine wpAnyH_take (i := 4) (v := ?_) rfl (by kernel_rfl) (by kernel_rfl) (by kernel_rfl) (fun _ _ _ h => h) (Or.inl ⟨by rfl, ?_⟩) (by assumption) ?_
      rotate_left
      · intro w9 hSw; (try dsimp only at hSw); go_simp; try with_reducible rfl
      try simp only [List.getElem_toArray, List.getElem_cons_succ, List.getElem_cons_zero, Act.put, List.setIfInBounds_toArray, List.set_cons_zero, List.set_cons_succ]
      refine wpAnyH_take (i := 5) (v := ?_) rfl (by kernel_rfl) (by kernel_rfl) (by kernel_rfl) (fun _ _ _ h => h) (Or.inl ⟨by rfl, ?_⟩) (by assumption) ?_
      rotate_left
      · intro w9 hSw; (try dsimp only at hSw); go_simp; try with_reducible rfl
      try simp only [List.getElem_toArray, List.getElem_cons_succ, List.getElem_cons_zero, Act.put, List.setIfInBounds_toArray, List.set_cons_zero, List.set_cons_succ]
      refine wpAnyH_take (i := 6) (v := ?_) rfl (by kernel_rfl) (by kernel_rfl) (by kernel_rfl) (fun _ _ _ h => h) (Or.inl ⟨by rfl, ?_⟩) (by assumption) ?_
      rotate_left
      · intro w9 hSw; (try dsimp only at hSw); go_simp; try with_reducible rfl
      try simp only [List.getElem_toArray, List.getElem_cons_succ, List.getElem_cons_zero, Act.put, List.setIfInBounds_toArray, List.set_cons_zero, List.set_cons_succ]
      refine wpAnyH_take (i := 7) (v := ?_) rfl (by kernel_rfl) (by kernel_rfl) (by kernel_rfl) (fun _ _ _ h => h) (Or.inl ⟨by rfl, ?_⟩) (by assumption) ?_
      rotate_left
      · intro w9 hSw; (try dsimp only at hSw); go_simp; try with_reducible rfl
      try simp only [List.getElem_toArray, List.getElem_cons_succ, List.getElem_cons_zero, Act.put, List.setIfInBounds_toArray, List.set_cons_zero, List.set_cons_succ]
      refine wpAnyH_take (i := 8) (v := ?_) rfl (by kernel_rfl) (by kernel_rfl) (by kernel_rfl) (fun _ _ _ h => h) (Or.inl ⟨by rfl, ?_⟩) (by assumption) ?_
      rotate_left
      · intro w9 hSw; (try dsimp only at hSw); go_simp; try with_reducible rfl
      try simp only [List.getElem_toArray, List.getElem_cons_succ, List.getElem_cons_zero, Act.put, List.setIfInBounds_toArray, List.set_cons_zero, List.set_cons_succ]
      refine wpAnyH_take (i := 9) (v := ?_) rfl (by kernel_rfl) (by kernel_rfl) (by kernel_rfl) (fun _ _ _ h => h) (Or.inl ⟨by rfl, ?_⟩) (by assumption) ?_
      rotate_left
      · intro w9 hSw; (try dsimp only at hSw); go_simp; try with_reducible rfl
      try simp only [List.getElem_toArray, List.getElem_cons_succ, List.getElem_cons_zero, Act.put, List.setIfInBounds_toArray, List.set_cons_zero, List.set_cons_succ]
      refine wpAnyH_take (i := 10) (v := ?_) rfl (by kernel_rfl) (by kernel_rfl) (by kernel_rfl) (fun _ _ _ h => h) (Or.inl ⟨by rfl, ?_⟩) (by assumption) ?_
      rotate_left
      · intro w9 hSw; (try dsimp only at hSw); go_simp; try with_reducible rfl
      try simp only [List.getElem_toArray, List.getElem_cons_succ, List.getElem_cons_zero, Act.put, List.setIfInBounds_toArray, List.set_cons_zero, List.set_cons_succ]
      refine wpAnyH_take (i := 11) (v := ?_) rfl (by kernel_rfl) (by kernel_rfl) (by kernel_rfl) (fun _ _ _ h => h) (Or.inl ⟨by rfl, ?_⟩) (by assumption) ?_
      rotate_left
      · intro w9 hSw; (try dsimp only at hSw); go_simp; try with_reducible rfl
      try simp only [List.getElem_toArray, List.getElem_cons_succ, List.getElem_cons_zero, Act.put, List.setIfInBounds_toArray, List.set_cons_zero, List.set_cons_succ]
      refine wpAnyH_take (i := 12) (v := ?_) rfl (by kernel_rfl) (by kernel_rfl) (by kernel_rfl) (fun _ _ _ h => h) (Or.inl ⟨by rfl, ?_⟩) (by assumption) ?_
      rotate_left
      · intro w9 hSw; (try dsimp only at hSw); go_simp; try with_reducible rfl
      try simp only [List.getElem_toArray, List.getElem_cons_succ, List.getElem_cons_zero, Act.put, List.setIfInBounds_toArray, List.set_cons_zero, List.set_cons_succ]
      refine wpAnyH_take (i := 13) (v := ?_) rfl (by kernel_rfl) (by kernel_rfl) (by kernel_rfl) (fun _ _ _ h => h) (Or.inl ⟨by rfl, ?_⟩) (by assumption) ?_
      rotate_left
      · intro w9 hSw; (try dsimp only at hSw); go_simp; try with_reducible rfl
      try simp only [List.getElem_toArray, List.getElem_cons_succ, List.getElem_cons_zero, Act.put, List.setIfInBounds_toArray, List.set_cons_zero, List.set_cons_succ]
      refine wpAnyH_take (i := 14) (v := ?_) rfl (by kernel_rfl) (by kernel_rfl) (by kernel_rfl) (fun _ _ _ h => h) (Or.inl ⟨by rfl, ?_⟩) (by assumption) ?_
      rotate_left
      · intro w9 hSw; (try dsimp only at hSw); go_simp; try with_reducible rfl
      try simp only [List.getElem_toArray, List.getElem_cons_succ, List.getElem_cons_zero, Act.put, List.setIfInBounds_toArray, List.set_cons_zero, List.set_cons_succ]
      refine wpAnyH_ready (rs := [15]) (by kernel_rfl) (by simp) ?_
      refine AllReadyH.cons rfl (fun K hK => ?_) AllReadyH.nil
      clear hHeld
      go_simp
      refine (HCK.out _ (Below.refl _ _).drew).mono ?_
      rintro e' v1 ⟨rfl, hb1⟩
      have HC1 := Lib.hid ((Below.refl wr.heap.size wr).drew.trans hb1)
      have m0 := cell_below HC1.out x0_0 (by omega)
      have m1 := cell_below HC1.out x0_1 (by omega)
      have m2 := cell_below HC1.out hc (by omega)
      have m3 := cell_below HC1.out hlc (by omega)
      have m4 := cell_below HC1.out hcc (by omega)
      clear hb1
      refine hK.out _ _ ?_ (fun hHeld => ?_)
      · exact ⟨m0, m1, m2, m3, m4⟩
      clear hK K
      try simp only [List.getElem_toArray, List.getElem_cons_succ, List.getElem_cons_zero, Act.put, List.setIfInBounds_toArray, List.set_cons_zero, List.set_cons_succ]
      refine wpAnyH_take (i := 16) (v := ?_) rfl (by kernel_rfl) (by kernel_rfl) (by kernel_rfl) (fun _ _ _ h => h) (Or.inl ⟨by rfl, ?_⟩) (by assumption) ?_
      rotate_left
      · intro w9 hSw; (try dsimp only at hSw); go_simp; try with_reducible rfl
      try simp only [List.getElem_toArray, List.getElem_cons_succ, List.getElem_cons_zero, Act.put, List.setIfInBounds_toArray, List.set_cons_zero, List.set_cons_succ]
      refine wpAnyH_take (i := 17) (v := ?_) rfl (by kernel_rfl) (by kernel_rfl) (by kernel_rfl) (fun _ _ _ h => h) (Or.inl ⟨by rfl, ?_⟩) (by assumption) ?_
      rotate_left
      · intro w9 hSw; (try dsimp only at hSw); go_simp; try with_reducible rfl
      try simp only [List.getElem_toArray, List.getElem_cons_succ, List.getElem_cons_zero, Act.put, List.setIfInBounds_toArray, List.set_cons_zero, List.set_cons_succ]
      refine wpAnyH_take (i := 18) (v := ?_) rfl (by kernel_rfl) (by kernel_rfl) (by kernel_rfl) (fun _ _ _ h => h) (Or.inl ⟨by rfl, ?_⟩) (by assumption) ?_
      rotate_left
      · intro w9 hSw; (try dsimp only at hSw); go_simp; try with_reducible rfl
      try simp only [List.getElem_toArray, List.getElem_cons_succ, List.getElem_cons_zero, Act.put, List.setIfInBounds_toArray, List.set_cons_zero, List.set_cons_succ]
      refine wpAnyH_done (by kernel_rfl) ?_ _
      refine NoPanic.normal ?_
      go_wp2_with fail
      go_roundw
      case rel => exact ⟨k + 1, by omega, by go_num, by rw [HT.out], HBl.out.trans (HC1.out.mono hsz)⟩
      case measure => simp [intOf]; omega
    · obtain rfl : k = rows.length := by omega
      have HBl := Lib.hid (HB2.out.trans (hbel.mono HB2.out.size))
      have i4 : ¬ (rows.length : Int) < (rows.length : Int) := by have := HLC.out; omega
      clear hbel
      go_wp2_with fail
      go_ret2
      exact ⟨rfl, HBl.out⟩
end Go.Proofs.Ytkbcofgigfnfaaa.krnu
