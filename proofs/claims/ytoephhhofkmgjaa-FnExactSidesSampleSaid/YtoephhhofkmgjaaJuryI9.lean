/- The program's juries: their sides and mistakes. -/
import Derived.Test.YtoephhhofkmgjaaJuryS
import Derived.Test.YtoephhhofkmgjaaSuitJ
import Derived.Test.YtoephhhofkmgjaaDecide
import Derived.Deep.RegionHeld3
import Derived.Deep.DrawnRows
import Derived.BigQuiet
namespace Go.Proofs.Ytoephhhofkmgjaa.juri
open Go.RowKit own pp nums pwh samplesv samplest planes dots both sides sidesof ones jurs suitj idxj dec mk
set_option linter.unusedVariables false
set_option linter.unusedSimpArgs false

open mk (mk_length mk_getD fil fil_zero fil_all fil_succ fil_at)
def difJ (ps : List (List Int × Int)) (k : Nat) : Bool := (((ps.getD k ([], 0)).1.length : Int) != ((ps.getD 0 ([], 0)).1.length : Int))
def majB (rows : List (List Int)) (zs : List Int) (ps : List (List Int × Int)) : Bool := (decide (1 ≤ (ps.length : Int)) && decide ((ps.length : Int) ≤ 9)) && allB rows zs ps && !((List.range ps.length).any (difJ ps))
theorem maj_iff (rows : List (List Int)) (zs : List Int) (ps : List (List Int × Int)) : majB rows zs ps = true ↔ juryB ps = true ∧ bothB rows zs (ps.getD 0 ([], 0)).1 (ps.getD 0 ([], 0)).2 = true := by
  have hd : ((List.range ps.length).any (difJ ps)) = false ↔ ∀ k, k < ps.length → (ps.getD k ([], 0)).1.length = (ps.getD 0 ([], 0)).1.length := by
    rw [List.any_eq_false]
    constructor
    · intro h k hk
      have := h k (List.mem_range.2 hk)
      by_cases e : (ps.getD k ([], 0)).1.length = (ps.getD 0 ([], 0)).1.length
      · exact e
      · exact absurd (show difJ ps k = true from bne_iff_ne.2 (fun h => e (by omega))) this
    · intro h k hk
      have := h k (List.mem_range.1 hk)
      unfold difJ
      rw [this]
      simp
  unfold majB
  rw [juryB_iff]
  simp only [Bool.and_eq_true, Bool.not_eq_true', decide_eq_true_eq, hd, allB_iff]
  constructor
  · rintro ⟨⟨⟨h1, h2⟩, h3⟩, h4⟩
    exact ⟨⟨fun k hk => ⟨((bothB_iff _ _ _ _).1 (h3 k hk)).2.1, h4 k hk⟩, by omega, by omega⟩, h3 0 (by omega)⟩
  · rintro ⟨⟨h1, h2, h3⟩, h4⟩
    obtain ⟨b1, b2, b3⟩ := (bothB_iff _ _ _ _).1 h4
    refine ⟨⟨⟨by omega, by omega⟩, fun k hk => (bothB_iff _ _ _ _).2 ⟨b1, (h1 k hk).1, ?_⟩⟩, fun k hk => (h1 k hk).2⟩
    rcases b3 with b3 | b3
    · exact .inl b3
    · exact .inr (by rw [(h1 k hk).2]; exact b3)
theorem maj_eq (rows : List (List Int)) (zs : List Int) (ps : List (List Int × Int)) : majB rows zs ps = (juryB ps && bothB rows zs (ps.getD 0 ([], 0)).1 (ps.getD 0 ([], 0)).2) := by
  have h := maj_iff rows zs ps
  cases hm : majB rows zs ps
  · cases hj : (juryB ps && bothB rows zs (ps.getD 0 ([], 0)).1 (ps.getD 0 ([], 0)).2)
    · rfl
    · rw [Bool.and_eq_true] at hj
      rw [h.2 hj] at hm
      cases hm
  · rw [(h.1 hm).1, (h.1 hm).2]; rfl
/-- The sum of the first k numbers. -/
def sumTo (zs : List Int) : Nat → Int
  | 0 => 0
  | k + 1 => sumTo zs k + zs.getD k 0
theorem sumTo_bd {zs : List Int} {B : Int} (h : ∀ j, j < zs.length → -B ≤ zs.getD j 0 ∧ zs.getD j 0 ≤ B) (k : Nat) (hk : k ≤ zs.length) : -(B * (k : Int)) ≤ sumTo zs k ∧ sumTo zs k ≤ B * (k : Int) := by
  induction k with
  | zero => simp [sumTo]
  | succ k ih =>
    have h1 := ih (by omega)
    have h2 := h k (by omega)
    show _ ≤ sumTo zs k + zs.getD k 0 ∧ sumTo zs k + zs.getD k 0 ≤ _
    have e : B * ((k + 1 : Nat) : Int) = B * (k : Int) + B := by rw [Int.natCast_add, Int.mul_add]; simp
    rw [e]
    omega
def sidesL (ps : List (List Int × Int)) (xs : List Int) : List Int := mk.mk (fun k => side (ps.getD k ([], 0)).1 (ps.getD k ([], 0)).2 xs) ps.length
theorem sidesL_length (ps : List (List Int × Int)) (xs : List Int) : (sidesL ps xs).length = ps.length := mk_length _ _
theorem sum_sides (ps : List (List Int × Int)) (xs : List Int) (k : Nat) (hk : k ≤ ps.length) : sumTo (sidesL ps xs) k = jsum ps xs k := by
  induction k with
  | zero => rfl
  | succ k ih =>
    show sumTo (sidesL ps xs) k + (sidesL ps xs).getD k 0 = jsum ps xs k + _
    rw [ih (by omega), show (sidesL ps xs).getD k 0 = side (ps.getD k ([], 0)).1 (ps.getD k ([], 0)).2 xs from mk_getD _ _ _ (by omega)]
theorem lab_side (ps : List (List Int × Int)) (xs : List Int) : lab (sumTo (sidesL ps xs) (sidesL ps xs).length) = jside ps xs := by
  rw [sidesL_length, sum_sides ps xs ps.length (Nat.le_refl _)]
  rfl

set_option maxRecDepth 100000 in
set_option maxHeartbeats 1600000 in
theorem dif_at (g : Nat) (x : Option Addr) (ps : List (List Int × Int)) (d : Nat) (k : Nat) (p : Option Addr) (q : Nat) (w : World) (y0 : w.cell? ⟨g, 0, none⟩ = some (.slice x ps.length d)) (hx : ReadsJ w x ps) (h1 : 0 < ps.length) (hlen : ps.length ≤ 1048576) (hw : ∀ k, k < ps.length → (ps.getD k ([], 0)).1.length ≤ 1048576) (hk : k < ps.length) :
    Calls Try.prog 128 #[.agg #[.slice p (ps.getD k ([], 0)).1.length q, .int .i64 (ps.getD k ([], 0)).2], .pointer (some ⟨g, 0, none⟩)] w (fun e w' => e = .returned (.bool (difJ ps k)) ∧ Below w.heap.size w w') := by
  obtain ⟨b, off, p0, q0, hab, hbl, hc, hd, _, _⟩ := hx.at h1
  subst hab
  rw [Nat.zero_mul, Nat.add_zero] at hc
  have hl0 := hw 0 h1
  have hlk := hw k hk
  have HE := Lib.hid (show difJ ps k = (((ps.getD k ([], 0)).1.length : Int) != ((ps.getD 0 ([], 0)).1.length : Int)) from rfl)
  clear hd hw
  generalize (ps.getD 0 ([], 0)).1.length = n0 at *
  generalize (ps.getD k ([], 0)).2 = bb at *
  generalize hwk : (ps.getD k ([], 0)).1.length = nk at *
  clear hwk
  rw [HE.out]
  clear HE
  have hbb := World.block_lt_of_cell? w _ hc
  have hgg := World.block_lt_of_cell? w _ y0
  replace y0 := cell_old (.cells #[.slice p nk q, .int .i64 bb] 86) y0
  replace hc := cell_old (.cells #[.slice p nk q, .int .i64 bb] 86) hc
  have HB0 := Lib.hid (below_alloc w (.cells #[.slice p nk q, .int .i64 bb] 86))
  have i3 : (0 : Int) < (ps.length : Int) := by omega
  clear hbl hbb hgg
  go_enter Try.func128, Try.ntmps128
  go_wp2_with fail
  go_quiet (fail)
  go_wp2_with fail
  go_ret
  exact ⟨rfl, ints.below_drewN HB0.out _⟩
set_option maxRecDepth 100000 in
set_option maxHeartbeats 1600000 in
theorem maj_len0 (a : Option Addr) (rows : List (List Int)) (c : Nat) (a' : Option Addr) (zs : List Int) (c' : Nat) (x : Option Addr) (ps : List (List Int × Int)) (d : Nat) (w : World) (hr : grid.Reads w a rows) (hz : ints.Reads .i64 w a' zs) (hx : ReadsJ w x ps) (hn : rows.length ≤ 1048576) (hk : zs.length ≤ 1048576) (hm : ∀ r ∈ rows, r.length ≤ 1048576) (hlen : ps.length ≤ 1048576) (hw : ∀ k, k < ps.length → (ps.getD k ([], 0)).1.length ≤ 1048576) (h0 : ps.length = 0) :
    Calls Try.prog 99 #[.slice x ps.length d, .agg #[.slice a rows.length c, .slice a' zs.length c']] w (RetB false w) := by
  have Hhr := Lib.hid hr
  have Hhz := Lib.hid hz
  have Hhm := Lib.hid hm
  have Hhx := Lib.hid hx
  have Hhw := Lib.hid hw
  clear hr hz hm hx hw
  have g1 : decide ((ps.length : Int) < 1) = true := by simp; omega
  clear h0
  go_enter Try.func99, Try.ntmps99
  obtain ⟨wb1, hw1⟩ : ∃ wb1 : World, wb1 = w.alloc (.cells #[.slice x ps.length d] 105) := ⟨_, rfl⟩
  obtain ⟨wb2, hw2⟩ : ∃ wb2 : World, wb2 = wb1.alloc (.cells #[.slice a rows.length c, .slice a' zs.length c'] 59) := ⟨_, rfl⟩
  have z1 : wb1.heap.size = w.heap.size + 1 := by rw [hw1]; simp
  have z2 : wb2.heap.size = w.heap.size + 2 := by rw [hw2]; simp; omega
  have x0_0 := (by rw [hw2]; exact cell_old _ (by rw [hw1]; exact cell_new _ _ _ rfl rfl : wb1.cell? ⟨w.heap.size, 0, none⟩ = some (.slice x ps.length d)) : wb2.cell? ⟨w.heap.size, 0, none⟩ = some (.slice x ps.length d))
  have x1_0 := (by rw [hw2]; exact cell_new _ _ _ z1.symm rfl : wb2.cell? ⟨w.heap.size + 1, 0, none⟩ = some (.slice a rows.length c))
  have x1_1 := (by rw [hw2]; exact cell_new _ _ _ z1.symm rfl : wb2.cell? ⟨w.heap.size + 1, 1, none⟩ = some (.slice a' zs.length c'))
  have HB0 := Lib.hid (show Below w.heap.size w wb2 by rw [hw2]; exact (show Below w.heap.size w wb1 by rw [hw1]; exact (Below.refl w.heap.size w).alloc (Nat.le_refl _) _).alloc (by omega) _)
  have s2 : w.heap.size + 2 ≤ wb2.heap.size := by omega
  have HZ2 := Lib.hid z2
  clear z1 z2
  go_wp2_with fail
  rw [← hw1, ← hw2]
  clear hw1 hw2
  go_ret
  exact ⟨rfl, HB0.out⟩
set_option maxRecDepth 100000 in
set_option maxHeartbeats 1600000 in
theorem maj_len10 (a : Option Addr) (rows : List (List Int)) (c : Nat) (a' : Option Addr) (zs : List Int) (c' : Nat) (x : Option Addr) (ps : List (List Int × Int)) (d : Nat) (w : World) (hr : grid.Reads w a rows) (hz : ints.Reads .i64 w a' zs) (hx : ReadsJ w x ps) (hn : rows.length ≤ 1048576) (hk : zs.length ≤ 1048576) (hm : ∀ r ∈ rows, r.length ≤ 1048576) (hlen : ps.length ≤ 1048576) (hw : ∀ k, k < ps.length → (ps.getD k ([], 0)).1.length ≤ 1048576) (h0 : 9 < ps.length) :
    Calls Try.prog 99 #[.slice x ps.length d, .agg #[.slice a rows.length c, .slice a' zs.length c']] w (RetB false w) := by
  have Hhr := Lib.hid hr
  have Hhz := Lib.hid hz
  have Hhm := Lib.hid hm
  have Hhx := Lib.hid hx
  have Hhw := Lib.hid hw
  clear hr hz hm hx hw
  have g1 : decide ((ps.length : Int) < 1) = false := by simp; omega
  have g2 : decide (9 < (ps.length : Int)) = true := by simp; omega
  clear h0
  go_enter Try.func99, Try.ntmps99
  obtain ⟨wb1, hw1⟩ : ∃ wb1 : World, wb1 = w.alloc (.cells #[.slice x ps.length d] 105) := ⟨_, rfl⟩
  obtain ⟨wb2, hw2⟩ : ∃ wb2 : World, wb2 = wb1.alloc (.cells #[.slice a rows.length c, .slice a' zs.length c'] 59) := ⟨_, rfl⟩
  have z1 : wb1.heap.size = w.heap.size + 1 := by rw [hw1]; simp
  have z2 : wb2.heap.size = w.heap.size + 2 := by rw [hw2]; simp; omega
  have x0_0 := (by rw [hw2]; exact cell_old _ (by rw [hw1]; exact cell_new _ _ _ rfl rfl : wb1.cell? ⟨w.heap.size, 0, none⟩ = some (.slice x ps.length d)) : wb2.cell? ⟨w.heap.size, 0, none⟩ = some (.slice x ps.length d))
  have x1_0 := (by rw [hw2]; exact cell_new _ _ _ z1.symm rfl : wb2.cell? ⟨w.heap.size + 1, 0, none⟩ = some (.slice a rows.length c))
  have x1_1 := (by rw [hw2]; exact cell_new _ _ _ z1.symm rfl : wb2.cell? ⟨w.heap.size + 1, 1, none⟩ = some (.slice a' zs.length c'))
  have HB0 := Lib.hid (show Below w.heap.size w wb2 by rw [hw2]; exact (show Below w.heap.size w wb1 by rw [hw1]; exact (Below.refl w.heap.size w).alloc (Nat.le_refl _) _).alloc (by omega) _)
  have s2 : w.heap.size + 2 ≤ wb2.heap.size := by omega
  have HZ2 := Lib.hid z2
  clear z1 z2
  go_wp2_with fail
  rw [← hw1, ← hw2]
  clear hw1 hw2
  go_ret
  exact ⟨rfl, HB0.out⟩
set_option maxRecDepth 100000 in
set_option maxHeartbeats 1600000 in
theorem maj_suit (a : Option Addr) (rows : List (List Int)) (c : Nat) (a' : Option Addr) (zs : List Int) (c' : Nat) (x : Option Addr) (ps : List (List Int × Int)) (d : Nat) (w : World) (hr : grid.Reads w a rows) (hz : ints.Reads .i64 w a' zs) (hx : ReadsJ w x ps) (hn : rows.length ≤ 1048576) (hk : zs.length ≤ 1048576) (hm : ∀ r ∈ rows, r.length ≤ 1048576) (hlen : ps.length ≤ 1048576) (hw : ∀ k, k < ps.length → (ps.getD k ([], 0)).1.length ≤ 1048576) (h0 : 1 ≤ ps.length) (h1 : ps.length ≤ 9) (h2 : allB rows zs ps = false) :
    Calls Try.prog 99 #[.slice x ps.length d, .agg #[.slice a rows.length c, .slice a' zs.length c']] w (RetB false w) := by
  have Hhr := Lib.hid hr
  have Hhz := Lib.hid hz
  have Hhm := Lib.hid hm
  have Hhx := Lib.hid hx
  have Hhw := Lib.hid hw
  clear hr hz hm hx hw
  have g1 : decide ((ps.length : Int) < 1) = false := by simp; omega
  have g2 : decide (9 < (ps.length : Int)) = false := by simp; omega
  have H2 := Lib.hid h2
  have H0 := Lib.hid h0
  clear h2 h0 h1
  go_enter Try.func99, Try.ntmps99
  obtain ⟨wb1, hw1⟩ : ∃ wb1 : World, wb1 = w.alloc (.cells #[.slice x ps.length d] 105) := ⟨_, rfl⟩
  obtain ⟨wb2, hw2⟩ : ∃ wb2 : World, wb2 = wb1.alloc (.cells #[.slice a rows.length c, .slice a' zs.length c'] 59) := ⟨_, rfl⟩
  have z1 : wb1.heap.size = w.heap.size + 1 := by rw [hw1]; simp
  have z2 : wb2.heap.size = w.heap.size + 2 := by rw [hw2]; simp; omega
  have x0_0 := (by rw [hw2]; exact cell_old _ (by rw [hw1]; exact cell_new _ _ _ rfl rfl : wb1.cell? ⟨w.heap.size, 0, none⟩ = some (.slice x ps.length d)) : wb2.cell? ⟨w.heap.size, 0, none⟩ = some (.slice x ps.length d))
  have x1_0 := (by rw [hw2]; exact cell_new _ _ _ z1.symm rfl : wb2.cell? ⟨w.heap.size + 1, 0, none⟩ = some (.slice a rows.length c))
  have x1_1 := (by rw [hw2]; exact cell_new _ _ _ z1.symm rfl : wb2.cell? ⟨w.heap.size + 1, 1, none⟩ = some (.slice a' zs.length c'))
  have HB0 := Lib.hid (show Below w.heap.size w wb2 by rw [hw2]; exact (show Below w.heap.size w wb1 by rw [hw1]; exact (Below.refl w.heap.size w).alloc (Nat.le_refl _) _).alloc (by omega) _)
  have s2 : w.heap.size + 2 ≤ wb2.heap.size := by omega
  have HZ2 := Lib.hid z2
  clear z1 z2
  go_wp2_with fail
  rw [← hw1, ← hw2]
  clear hw1 hw2
  refine (all_suit a rows c a' zs c' x ps d _ (Hhr.out.below HB0.out) (Hhz.out.below HB0.out) (Hhx.out.below HB0.out) hn hk Hhm.out hlen Hhw.out).mono ?_
  rintro e w3 ⟨rfl, hb⟩
  rw [H2.out]
  have HB3 := Lib.hid (HB0.out.trans (hb.mono (by omega)))
  have y0 := cell_below hb x0_0 (by omega)
  have s3 := hb.size
  clear hb
  go_wp2_with fail
  go_ret
  exact ⟨rfl, HB3.out⟩
set_option maxRecDepth 100000 in
set_option maxHeartbeats 1600000 in
theorem maj_end (a : Option Addr) (rows : List (List Int)) (c : Nat) (a' : Option Addr) (zs : List Int) (c' : Nat) (x : Option Addr) (ps : List (List Int × Int)) (d : Nat) (w : World) (hr : grid.Reads w a rows) (hz : ints.Reads .i64 w a' zs) (hx : ReadsJ w x ps) (hn : rows.length ≤ 1048576) (hk : zs.length ≤ 1048576) (hm : ∀ r ∈ rows, r.length ≤ 1048576) (hlen : ps.length ≤ 1048576) (hw : ∀ k, k < ps.length → (ps.getD k ([], 0)).1.length ≤ 1048576) (h0 : 1 ≤ ps.length) (h1 : ps.length ≤ 9) (h2 : allB rows zs ps = true) :
    Calls Try.prog 99 #[.slice x ps.length d, .agg #[.slice a rows.length c, .slice a' zs.length c']] w (RetB (!((List.range ps.length).any (difJ ps))) w) := by
  have Hhr := Lib.hid hr
  have Hhz := Lib.hid hz
  have Hhm := Lib.hid hm
  have Hhx := Lib.hid hx
  have Hhw := Lib.hid hw
  clear hr hz hm hx hw
  have g1 : decide ((ps.length : Int) < 1) = false := by simp; omega
  have g2 : decide (9 < (ps.length : Int)) = false := by simp; omega
  have H2 := Lib.hid h2
  have H0 := Lib.hid h0
  clear h2 h0 h1
  go_enter Try.func99, Try.ntmps99
  obtain ⟨wb1, hw1⟩ : ∃ wb1 : World, wb1 = w.alloc (.cells #[.slice x ps.length d] 105) := ⟨_, rfl⟩
  obtain ⟨wb2, hw2⟩ : ∃ wb2 : World, wb2 = wb1.alloc (.cells #[.slice a rows.length c, .slice a' zs.length c'] 59) := ⟨_, rfl⟩
  have z1 : wb1.heap.size = w.heap.size + 1 := by rw [hw1]; simp
  have z2 : wb2.heap.size = w.heap.size + 2 := by rw [hw2]; simp; omega
  have x0_0 := (by rw [hw2]; exact cell_old _ (by rw [hw1]; exact cell_new _ _ _ rfl rfl : wb1.cell? ⟨w.heap.size, 0, none⟩ = some (.slice x ps.length d)) : wb2.cell? ⟨w.heap.size, 0, none⟩ = some (.slice x ps.length d))
  have x1_0 := (by rw [hw2]; exact cell_new _ _ _ z1.symm rfl : wb2.cell? ⟨w.heap.size + 1, 0, none⟩ = some (.slice a rows.length c))
  have x1_1 := (by rw [hw2]; exact cell_new _ _ _ z1.symm rfl : wb2.cell? ⟨w.heap.size + 1, 1, none⟩ = some (.slice a' zs.length c'))
  have HB0 := Lib.hid (show Below w.heap.size w wb2 by rw [hw2]; exact (show Below w.heap.size w wb1 by rw [hw1]; exact (Below.refl w.heap.size w).alloc (Nat.le_refl _) _).alloc (by omega) _)
  have s2 : w.heap.size + 2 ≤ wb2.heap.size := by omega
  have HZ2 := Lib.hid z2
  clear z1 z2
  go_wp2_with fail
  rw [← hw1, ← hw2]
  clear hw1 hw2
  refine (all_suit a rows c a' zs c' x ps d _ (Hhr.out.below HB0.out) (Hhz.out.below HB0.out) (Hhx.out.below HB0.out) hn hk Hhm.out hlen Hhw.out).mono ?_
  rintro e w3 ⟨rfl, hb⟩
  rw [H2.out]
  have HB3 := Lib.hid (HB0.out.trans (hb.mono (by omega)))
  have y0 := cell_below hb x0_0 (by omega)
  have s3 := hb.size
  clear hb
  go_wp2_with fail
  refine (hasM 128 (enters_of Try.func128 (by kernel_rfl) rfl) _ x ps d (difJ ps) w3 hlen (Lib.hid (Hhx.out.below HB3.out)) (Lib.hid fun k wr q d' hk' hb hq => dif_at w.heap.size x ps d k q d' wr (cell_below hb y0 (by omega)) (Hhx.out.below (HB3.out.trans (hb.mono HB3.out.size))) H0.out hlen Hhw.out hk')).mono ?_
  rintro e w4 ⟨rfl, hb⟩
  have HB4 := Lib.hid (HB3.out.trans (hb.mono HB3.out.size))
  clear hb
  generalize ((List.range ps.length).any (difJ ps)) = y9 at *
  go_wp2_with fail
  go_ret
  exact ⟨rfl, HB4.out⟩
theorem impl_maj (a : Option Addr) (rows : List (List Int)) (c : Nat) (a' : Option Addr) (zs : List Int) (c' : Nat) (x : Option Addr) (ps : List (List Int × Int)) (d : Nat) (w : World) (hr : grid.Reads w a rows) (hz : ints.Reads .i64 w a' zs) (hx : ReadsJ w x ps) (hn : rows.length ≤ 1048576) (hk : zs.length ≤ 1048576) (hm : ∀ r ∈ rows, r.length ≤ 1048576) (hlen : ps.length ≤ 1048576) (hw : ∀ k, k < ps.length → (ps.getD k ([], 0)).1.length ≤ 1048576) :
    Calls Try.prog 99 #[.slice x ps.length d, .agg #[.slice a rows.length c, .slice a' zs.length c']] w (RetB (majB rows zs ps) w) := by
  by_cases h0 : ps.length = 0
  · rw [show majB rows zs ps = false from by unfold majB; rw [show decide (1 ≤ (ps.length : Int)) = false from by simp; omega]; rfl]
    exact maj_len0 a rows c a' zs c' x ps d w hr hz hx hn hk hm hlen hw h0
  by_cases h10 : 9 < ps.length
  · rw [show majB rows zs ps = false from by unfold majB; rw [show decide ((ps.length : Int) ≤ 9) = false from by simp; omega, Bool.and_false]; rfl]
    exact maj_len10 a rows c a' zs c' x ps d w hr hz hx hn hk hm hlen hw h10
  have e : majB rows zs ps = (allB rows zs ps && !((List.range ps.length).any (difJ ps))) := by
    unfold majB
    rw [show decide (1 ≤ (ps.length : Int)) = true from by simp; omega, show decide ((ps.length : Int) ≤ 9) = true from by simp; omega]
    rfl
  rw [e]
  cases h2 : allB rows zs ps
  · exact maj_suit a rows c a' zs c' x ps d w hr hz hx hn hk hm hlen hw (by omega) (by omega) h2
  · rw [Bool.true_and]
    exact maj_end a rows c a' zs c' x ps d w hr hz hx hn hk hm hlen hw (by omega) (by omega) h2
set_option maxRecDepth 100000 in
set_option maxHeartbeats 1600000 in
theorem impl_sides (x : Option Addr) (ps : List (List Int × Int)) (d : Nat) (y : Option Addr) (xs : List Int) (q : Nat) (w : World) (hx : ReadsJ w x ps) (hy : ints.Reads .i64 w y xs) (hF : ∀ k, k < ps.length → (ps.getD k ([], 0)).1.length = xs.length ∧ Small (ps.getD k ([], 0)).1 xs ∧ Mid (ps.getD k ([], 0)).2) (h4 : xs.length ≤ 4) (h9 : ps.length ≤ 9) :
    Calls Try.prog 101 #[.slice x ps.length d, .slice y xs.length q] w (intfns.Made (sidesL ps xs) w) := by
  obtain ⟨i0, hi, hz0, hz1, hz2⟩ := info_parts mk.infoInt
  have HX := Lib.hid hx
  have HY := Lib.hid hy
  have HF := Lib.hid hF
  clear hx hy hF
  have j0 : (0 : Int) ≤ (ps.length : Int) := by omega
  have j1 : (ps.length : Int) ≤ 9 := by omega
  go_enter Try.func101, Try.ntmps101
  go_wp2_with (refine wpList_make_full _ rfl _ _ 33 rfl w.heap.size 3 i0 (.int .i64 0) 1 Try.underlying33 hi hz0 hz1 .i64 .i64 _ _ ps.length rfl rfl rfl rfl (by rw [hz2]; omega) (by unfold maxLen; omega) (Nat.le_refl _) ?_; intro w1 hown1 hgrow1; refine Hid.out ?_)
  refine Lib.hid ?_
  have HB1 := Lib.hid (show Below w.heap.size w w1 from (Below.refl _ _).grown hgrow1 (Nat.le_refl _) (by simp))
  rw [show (Value.int .i64 0).cells = #[Value.int .i64 0] from rfl, Nat.mul_one, toList_madeCells_one, ← fil_zero (fun k => side (ps.getD k ([], 0)).1 (ps.getD k ([], 0)).2 xs)] at hown1
  have HO1 := Lib.hid hown1
  clear hgrow1 hown1
  go_wp2_with fail
  go_loopw [13] (fun i wr => ∃ k : Nat, k ≤ ps.length ∧ i = .int .i64 k ∧ wr.ownsRow w.heap.size 3 1 (.slice (some ⟨w.heap.size, 0, none⟩) ps.length ps.length) ps.length (fil (fun k => side (ps.getD k ([], 0)).1 (ps.getD k ([], 0)).2 xs) ps.length k) ∧ Below w.heap.size w wr) (fun i _ => ps.length - (intOf i).toNat)
  case atStart => exact ⟨0, Nat.zero_le _, rfl, HO1.out, HB1.out⟩
  case round =>
    obtain ⟨k, hk, rfl, hown, hbel⟩ := hrel
    clear HO1 HB1
    have HB := Lib.hid hbel
    have hsz := hbel.size
    clear hbel
    by_cases hlt : k < ps.length
    · obtain ⟨g, go, p, pq, hab, hbl, hc, hd, hpq, hrow⟩ := (HX.out.below HB.out).at hlt
      subst hab
      have hFk := HF.out k hlt
      have HC := Lib.hid (show ∀ wa : World, Below wr.heap.size wr wa → Calls Try.prog 130 #[.agg #[.slice p (ps.getD k ([], 0)).1.length pq, .int .i64 (ps.getD k ([], 0)).2], .slice y xs.length q] wa (RetN (side (ps.getD k ([], 0)).1 (ps.getD k ([], 0)).2 xs) wa) from fun wa hB => impl_side p (ps.getD k ([], 0)).1 pq (ps.getD k ([], 0)).2 y xs q wa (hrow.below hB) (HY.out.below (HB.out.trans (hB.mono hsz))) (by omega) (Nat.le_of_eq hFk.1) (by omega) hFk.2.1 hFk.2.2)
      have hgl := hown.lt w.heap.size rfl
      have HST := Lib.hid (show ∀ w2 : World, Below wr.heap.size wr w2 → w2.cell? ⟨w.heap.size, k, none⟩ = some (.int .i64 0) ∧ w2.frozen? ⟨w.heap.size, k, none⟩ = false ∧ (w2.setCell ⟨w.heap.size, k, none⟩ (.int .i64 (side (ps.getD k ([], 0)).1 (ps.getD k ([], 0)).2 xs))).ownsRow w.heap.size 3 1 (.slice (some ⟨w.heap.size, 0, none⟩) ps.length ps.length) ps.length (fil (fun k => side (ps.getD k ([], 0)).1 (ps.getD k ([], 0)).2 xs) ps.length (k + 1)) from fun w2 hB => by
        have ho2 := ownsRow_block (w' := w2) hown (fun g hg => hB.block g (hown.lt g hg).2)
        refine ⟨by rw [ho2.cellAt k (by omega), fil_at _ _ k hlt], ho2.frozenAt k, ?_⟩
        have := (ho2.stored k (.int .i64 (side (ps.getD k ([], 0)).1 (ps.getD k ([], 0)).2 xs))).1
        rw [fil_succ (fun k => side (ps.getD k ([], 0)).1 (ps.getD k ([], 0)).2 xs) _ k hlt] at this
        exact this)
      have i1 : (0 : Int) ≤ (k : Int) := by omega
      have i2 : (k : Int) < (ps.length : Int) := by omega
      clear hown hrow hpq hFk
      generalize side (ps.getD k ([], 0)).1 (ps.getD k ([], 0)).2 xs = s at *
      generalize (ps.getD k ([], 0)).2 = b at *
      generalize (ps.getD k ([], 0)).1 = ws at *
      go_wp2_with fail
      refine (HC.out _ (below_alloc wr _)).mono ?_
      rintro e w2 ⟨rfl, hb⟩
      have HB2 := Lib.hid ((below_alloc wr _).trans (hb.mono (by simp)))
      obtain ⟨hcell, hfro, hst⟩ := HST.out w2 HB2.out
      have HSO := Lib.hid hst
      clear hb hst HST HC
      go_wp2_with fail
      go_roundw
      case rel => exact ⟨k + 1, by omega, by go_num, HSO.out, (HB.out.trans (HB2.out.mono hsz)).setCell (Nat.le_refl _) _⟩
      case measure => simp [intOf]; omega
    · obtain rfl : k = ps.length := by omega
      rw [fil_all] at hown
      have HO := Lib.hid hown
      clear hown
      go_wp2_with fail
      go_ret
      exact ⟨_, rfl, OwnI.of (by rw [sidesL_length]; exact HO.out), HB.out⟩
theorem fit_of_one {ps : List (List Int × Int)} {xs : List Int} (hj : juryB ps = true) (ho : oneB (ps.getD 0 ([], 0)).1 (ps.getD 0 ([], 0)).2 xs = true) (k : Nat) (hk : k < ps.length) : (ps.getD k ([], 0)).1.length = xs.length ∧ Small (ps.getD k ([], 0)).1 xs ∧ Mid (ps.getD k ([], 0)).2 :=
  ⟨(one_of_jury hj ho k hk).1, (one_of_jury hj ho k hk).2, mid_plane (((juryB_iff ps).1 hj).1 k hk).1⟩
theorem fit_of_both {rows : List (List Int)} {zs : List Int} {ps : List (List Int × Int)} (hm : majB rows zs ps = true) (i : Nat) (hi : i < rows.length) : (∀ k, k < ps.length → (ps.getD k ([], 0)).1.length = (rows.getD i []).length ∧ Small (ps.getD k ([], 0)).1 (rows.getD i []) ∧ Mid (ps.getD k ([], 0)).2) ∧ (rows.getD i []).length ≤ 4 ∧ ps.length ≤ 9 := by
  obtain ⟨hj, hb⟩ := (maj_iff _ _ _).1 hm
  obtain ⟨b1, b2, b3⟩ := (bothB_iff _ _ _ _).1 hb
  have hF := (fit_of hb).1 i hi
  have hp := all_at _ [] rows ((sampleB_iff _ _).1 b1).2.2.2 i hi
  simp only [Bool.and_eq_true, decide_eq_true_eq] at hp
  have ho : oneB (ps.getD 0 ([], 0)).1 (ps.getD 0 ([], 0)).2 (rows.getD i []) = true := (oneB_iff _ _ _).2 ⟨b2, hp.1, hF.1⟩
  exact ⟨fit_of_one hj ho, ((pointB_iff _).1 hp.1).2.1, ((juryB_iff ps).1 hj).2.2⟩
end Go.Proofs.Ytoephhhofkmgjaa.juri
