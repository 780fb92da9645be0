/- The walks of a turn of winnow: the model's and the program's. -/
import Derived.Test.YtocbklmkphgkeaaShares
import Derived.Test.YtocbklmkphgkeaaDots
import Derived.Test.YtocbklmkphgkeaaCopy
import Derived.Test.YtocbklmkphgkeaaRets
import Derived.Lib.SmallJoins
namespace Go.Proofs.Ytocbklmkphgkeaa.turn
open Go.RowKit own pp nums range winbound dots
set_option linter.unusedVariables false
set_option linter.unusedSimpArgs false

theorem infoInt : (Try.prog.info? 3).map (fun i => (i.zero, i.size, i.bytes)) = some (some (.int .i64 0), 1, 8) := by kernel_rfl

/-- What shares say to a row. -/
def says (ss rs : List Int) : Int := if (ss.length : Int) ≤ dot ss rs then 1 else 0
/-- The first k shares behind a wrong turn, then the others as they were. -/
def partT (ss rs : List Int) (y : Int) (k : Nat) : List Int := (List.range ss.length).map fun i => if i < k ∧ rs.getD i 0 = 1 then 2 * y * ss.getD i 0 else ss.getD i 0
def next (ss rs : List Int) (y : Int) : List Int := if says ss rs = y then ss else partT ss rs y ss.length
theorem part_length (ss rs : List Int) (y : Int) (k : Nat) : (partT ss rs y k).length = ss.length := by simp [partT]
theorem part_at (ss rs : List Int) (y : Int) (k i : Nat) (h : i < ss.length) : (partT ss rs y k)[i]? = some (if i < k ∧ rs.getD i 0 = 1 then 2 * y * ss.getD i 0 else ss.getD i 0) := by simp [partT, h]
theorem part_zero (ss rs : List Int) (y : Int) : partT ss rs y 0 = ss := by
  apply List.ext_getElem?
  intro i
  by_cases h : i < ss.length
  · rw [part_at _ _ _ _ _ h, if_neg (by omega), List.getElem?_eq_getElem h, List.getD_eq_getElem?_getD, List.getElem?_eq_getElem h]; rfl
  · rw [List.getElem?_eq_none (by rw [part_length]; omega), List.getElem?_eq_none (by omega)]
theorem part_hit (ss rs : List Int) (y : Int) (k : Nat) (h : k < ss.length) (hb : rs.getD k 0 = 1) : (partT ss rs y k).set k (2 * y * ss.getD k 0) = partT ss rs y (k + 1) := by
  apply List.ext_getElem?
  intro i
  by_cases hi : i < ss.length
  · rw [List.getElem?_set, part_at _ _ _ _ _ hi, part_at _ _ _ _ _ hi]
    by_cases e : k = i
    · subst e
      rw [if_pos rfl, if_pos (by rw [part_length]; exact hi), if_pos ⟨by omega, hb⟩]
    · rw [if_neg e]
      simp only [show (i < k + 1) ↔ (i < k) from by omega]
  · rw [List.getElem?_eq_none (by rw [List.length_set, part_length]; omega), List.getElem?_eq_none (by rw [part_length]; omega)]
theorem part_miss (ss rs : List Int) (y : Int) (k : Nat) (hb : rs.getD k 0 ≠ 1) : partT ss rs y (k + 1) = partT ss rs y k := by
  apply List.ext_getElem?
  intro i
  by_cases hi : i < ss.length
  · rw [part_at _ _ _ _ _ hi, part_at _ _ _ _ _ hi]
    by_cases e : i = k
    · subst e
      rw [if_neg (fun h => hb h.2), if_neg (fun h => hb h.2)]
    · simp only [show (i < k + 1) ↔ (i < k) from by omega]
  · rw [List.getElem?_eq_none (by rw [part_length]; omega), List.getElem?_eq_none (by rw [part_length]; omega)]
theorem part_cell {w : World} {C g cap : Nat} {ss rs : List Int} {y : Int} {k : Nat} (ho : w.ownsRow C 3 1 (.slice (some ⟨g, 0, none⟩) ss.length cap) ss.length ((partT ss rs y k).map (Value.int .i64))) (hk : k < ss.length) : w.cell? ⟨g, k, none⟩ = some (.int .i64 (ss.getD k 0)) := by
  rw [ho.cellAt k (by omega), List.getElem?_map, part_at _ _ _ _ _ hk, if_neg (by omega)]; rfl
theorem part_store {w : World} {C g cap : Nat} {ss rs : List Int} {y : Int} {k : Nat} (ho : w.ownsRow C 3 1 (.slice (some ⟨g, 0, none⟩) ss.length cap) ss.length ((partT ss rs y k).map (Value.int .i64))) (hk : k < ss.length) (hb : rs.getD k 0 = 1) (V : Int) (hV : V = 2 * y * ss.getD k 0) :
    (w.setCell ⟨g, k, none⟩ (.int .i64 V)).ownsRow C 3 1 (.slice (some ⟨g, 0, none⟩) ss.length cap) ss.length ((partT ss rs y (k + 1)).map (Value.int .i64)) := by
  subst hV
  have := (ho.stored k (.int .i64 (2 * y * ss.getD k 0))).1
  rw [← List.map_set, part_hit _ _ _ _ hk hb] at this
  exact this

/-- What a turn asks for. -/
def swB (ss rs : List Int) (y : Int) : Bool := sharesB ss && rowsB' ss.length rs && inR 0 1 y
theorem swB_iff (ss rs : List Int) (y : Int) : swB ss rs y = true ↔ sharesB ss = true ∧ rowsB' ss.length rs = true ∧ inR 0 1 y = true := by simp [swB, and_assoc]
structure Fit (ss rs : List Int) (y : Int) : Prop where
  pos : 1 ≤ ss.length
  le : ss.length ≤ 8
  bd : numsR 0 16 ss = true
  len : rs.length = ss.length
  bits : numsR 0 1 rs = true
  ans : y = 0 ∨ y = 1
theorem Fit.of {ss rs : List Int} {y : Int} (h : swB ss rs y = true) : Fit ss rs y := by
  obtain ⟨h1, h2, h3⟩ := (swB_iff _ _ _).1 h
  simp only [sharesB, Bool.and_eq_true, decide_eq_true_eq] at h1
  simp only [rowsB', Bool.and_eq_true, decide_eq_true_eq] at h2
  have := (inR_iff _ _ _).1 h3
  exact ⟨by omega, by omega, h1.2, by omega, h2.1, by omega⟩
theorem Fit.small {ss rs : List Int} {y : Int} (h : Fit ss rs y) : Small ss rs := by
  intro k hk
  have h1 := numsR_at h.bd k hk
  have h2 := numsR_at h.bits k (by rw [h.len]; exact hk)
  have := mul_bd (A := 16) (B := 1) (x := ss.getD k 0) (y := rs.getD k 0) (by omega) (by omega) (by omega) (by omega)
  omega
theorem next_length (ss rs : List Int) (y : Int) : (next ss rs y).length = ss.length := by
  unfold next
  split
  · rfl
  · exact part_length _ _ _ _
theorem next_says {ss rs : List Int} {y : Int} (h : says ss rs = y) : next ss rs y = ss := if_pos h
theorem next_wrong {ss rs : List Int} {y : Int} (h : says ss rs ≠ y) : next ss rs y = partT ss rs y ss.length := if_neg h
theorem form {lo hi : Nat} {w : World} {v : Value} {zs : List Int} (h : OwnI lo hi w v zs) (h0 : 0 < zs.length) : ∃ g cap, v = .slice (some ⟨g, 0, none⟩) zs.length cap ∧ lo ≤ g := by
  rcases h.1.2 with ⟨_, e⟩ | ⟨g, cap, cur, e, hl, _⟩
  · omega
  · exact ⟨g, cap, e, hl⟩
set_option maxRecDepth 100000 in
set_option maxHeartbeats 4000000 in
theorem spec_turn (a : Option Addr) (ss : List Int) (c : Nat) (a' : Option Addr) (rs : List Int) (c' : Nat) (y : Int) (w : World) (hr : ints.Reads .i64 w a ss) (hq : ints.Reads .i64 w a' rs) (hF : Fit ss rs y) :
    Calls Try.prog 123 #[.slice a ss.length c, .slice a' rs.length c', .int .i64 y] w (RetIB (next ss rs y) (decide (says ss rs = y)) w) := by
  have HF := Lib.hid hF
  have h1 := hF.pos
  have h8 := hF.le
  have HC := Lib.hid (spec_dot a ss c a' rs c' w hr hq (by omega) (by have := hF.len; omega) (by have := hF.len; omega) hF.small)
  have Hhr := Lib.hid hr
  have Hhq := Lib.hid hq
  have HS := Lib.hid (show says ss rs = if (ss.length : Int) ≤ dot ss rs then 1 else 0 from rfl)
  have hy := hF.ans
  have HP := Lib.hid (show ∀ r, r = next ss rs y → ∀ o, o = decide (says ss rs = y) → RetIB (next ss rs y) (decide (says ss rs = y)) w = RetIB r o w from fun r hr o ho => by rw [hr, ho])
  clear hr hq hF
  by_cases hd : (ss.length : Int) ≤ dot ss rs
  · rcases hy with rfl | rfl
    · have hs : says ss rs = 1 := by rw [HS.out, if_pos hd]
      have g1 : decide ((ss.length : Int) ≤ dot ss rs) = true := by simpa using hd
      rw [HP.out (partT ss rs 0 ss.length) (next_wrong (by rw [hs]; decide)).symm false (by rw [hs]; rfl)]
      clear hs HP HS hd
      generalize dot ss rs = d at *
      go_enter Try.func123, Try.ntmps123
      go_wp2_with fail
      refine HC.out.mono ?_
      rintro e w' ⟨rfl, m, rfl⟩
      have HB0 := Lib.hid (ints.below_drewN (Below.refl w.heap.size w) m)
      generalize hw0 : w.drewN m = w0 at *
      clear hw0
      go_wp2_with fail
      refine (own1.spec_own a ss c _ (Hhr.out.below HB0.out) (by omega) (by omega)).mono ?_
      rintro e w1 ⟨v, rfl, ho, hb1⟩
      obtain ⟨g, cap, hv, hg⟩ := form ho (by omega)
      subst hv
      have HO := Lib.hid ho.1
      have HB1 := Lib.hid hb1
      have hsz := HB0.out.size
      clear ho hb1
      go_wp2_with fail
      go_loopw [10] (fun i wr => ∃ k : Nat, k ≤ ss.length ∧ i = .int .i64 k ∧ wr.ownsRow w0.heap.size 3 1 (.slice (some ⟨g, 0, none⟩) ss.length cap) ss.length ((partT ss rs 0 k).map (Value.int .i64)) ∧ Below w0.heap.size w0 wr) (fun i _ => ss.length - (intOf i).toNat)
      case atStart => exact ⟨0, Nat.zero_le _, rfl, by rw [part_zero]; exact HO.out, HB1.out⟩
      case round =>
        obtain ⟨k, hk', rfl, hown, hbel⟩ := hrel
        have HBl := Lib.hid hbel
        by_cases hlt : k < ss.length
        · obtain ⟨rb, ro, rfl, hrb, hrc⟩ := (Hhq.out.below HB0.out).at (k := k) (by have := HF.out.len; omega)
          replace hrc := cell_below hbel hrc (by omega)
          have hbit := numsR_at HF.out.bits k (by have := HF.out.len; omega)
          have hval := numsR_at HF.out.bd k hlt
          have hcell := part_cell hown hlt
          have hfro := hown.frozenAt k
          have i1 : (0 : Int) ≤ (k : Int) := by omega
          have i2 : (k : Int) < (ss.length : Int) := by omega
          have i3 : (k : Int) < (rs.length : Int) := by have := HF.out.len; omega
          by_cases hb : rs.getD k 0 = 1
          · have HST := Lib.hid (part_store hown hlt hb (0) (by omega))
            rw [hb] at hrc
            clear hown hbel hb hbit
            generalize ss.getD k 0 = s at *
            go_wp2_with fail
            go_roundw
            case rel => exact ⟨k + 1, by omega, by go_num, HST.out, HBl.out.setCell (by first | omega | exact Nat.le_refl _) _⟩
            case measure => simp [intOf]; omega
          · have hz : rs.getD k 0 = 0 := by omega
            have HO2 := Lib.hid hown
            have HM := Lib.hid (part_miss ss rs 0 k hb)
            rw [hz] at hrc
            clear hown hbel hb hbit hz hcell hfro
            go_wp2_with fail
            go_roundw
            case rel => exact ⟨k + 1, by omega, by go_num, by rw [HM.out]; exact HO2.out, HBl.out⟩
            case measure => simp [intOf]; omega
        · obtain rfl : k = ss.length := by omega
          have HO2 := Lib.hid hown
          have i2 : ¬ (ss.length : Int) < (rs.length : Int) := by have := HF.out.len; omega
          clear hown hbel
          go_wp2_with fail
          go_ret2
          exact ⟨_, rfl, (OwnI.of (by rw [part_length]; exact HO2.out)).mono hsz (Nat.le_refl _), HB0.out.trans (HBl.out.mono hsz)⟩
    · have hs : says ss rs = 1 := by rw [HS.out, if_pos hd]
      have g1 : decide ((ss.length : Int) ≤ dot ss rs) = true := by simpa using hd
      rw [HP.out ss (next_says hs).symm true (by rw [hs]; rfl)]
      clear hs HP HS hd
      generalize dot ss rs = d at *
      go_enter Try.func123, Try.ntmps123
      go_wp2_with fail
      refine HC.out.mono ?_
      rintro e w' ⟨rfl, m, rfl⟩
      have HB0 := Lib.hid (ints.below_drewN (Below.refl w.heap.size w) m)
      generalize hw0 : w.drewN m = w0 at *
      clear hw0
      go_wp2_with fail
      refine (own1.spec_own a ss c _ (Hhr.out.below HB0.out) (by omega) (by omega)).mono ?_
      rintro e w1 ⟨v, rfl, ho, hb1⟩
      obtain ⟨g, cap, hv, hg⟩ := form ho (by omega)
      subst hv
      have HO := Lib.hid ho.1
      have HB1 := Lib.hid hb1
      have hsz := HB0.out.size
      clear ho hb1
      go_wp2_with fail
      go_ret2
      exact ⟨_, rfl, (OwnI.of HO.out).mono hsz (Nat.le_refl _), HB0.out.trans (HB1.out.mono hsz)⟩
  · rcases hy with rfl | rfl
    · have hs : says ss rs = 0 := by rw [HS.out, if_neg hd]
      have g1 : decide ((ss.length : Int) ≤ dot ss rs) = false := by simpa using hd
      rw [HP.out ss (next_says hs).symm true (by rw [hs]; rfl)]
      clear hs HP HS hd
      generalize dot ss rs = d at *
      go_enter Try.func123, Try.ntmps123
      go_wp2_with fail
      refine HC.out.mono ?_
      rintro e w' ⟨rfl, m, rfl⟩
      have HB0 := Lib.hid (ints.below_drewN (Below.refl w.heap.size w) m)
      generalize hw0 : w.drewN m = w0 at *
      clear hw0
      go_wp2_with fail
      refine (own1.spec_own a ss c _ (Hhr.out.below HB0.out) (by omega) (by omega)).mono ?_
      rintro e w1 ⟨v, rfl, ho, hb1⟩
      obtain ⟨g, cap, hv, hg⟩ := form ho (by omega)
      subst hv
      have HO := Lib.hid ho.1
      have HB1 := Lib.hid hb1
      have hsz := HB0.out.size
      clear ho hb1
      go_wp2_with fail
      go_ret2
      exact ⟨_, rfl, (OwnI.of HO.out).mono hsz (Nat.le_refl _), HB0.out.trans (HB1.out.mono hsz)⟩
    · have hs : says ss rs = 0 := by rw [HS.out, if_neg hd]
      have g1 : decide ((ss.length : Int) ≤ dot ss rs) = false := by simpa using hd
      rw [HP.out (partT ss rs 1 ss.length) (next_wrong (by rw [hs]; decide)).symm false (by rw [hs]; rfl)]
      clear hs HP HS hd
      generalize dot ss rs = d at *
      go_enter Try.func123, Try.ntmps123
      go_wp2_with fail
      refine HC.out.mono ?_
      rintro e w' ⟨rfl, m, rfl⟩
      have HB0 := Lib.hid (ints.below_drewN (Below.refl w.heap.size w) m)
      generalize hw0 : w.drewN m = w0 at *
      clear hw0
      go_wp2_with fail
      refine (own1.spec_own a ss c _ (Hhr.out.below HB0.out) (by omega) (by omega)).mono ?_
      rintro e w1 ⟨v, rfl, ho, hb1⟩
      obtain ⟨g, cap, hv, hg⟩ := form ho (by omega)
      subst hv
      have HO := Lib.hid ho.1
      have HB1 := Lib.hid hb1
      have hsz := HB0.out.size
      clear ho hb1
      go_wp2_with fail
      go_loopw [10] (fun i wr => ∃ k : Nat, k ≤ ss.length ∧ i = .int .i64 k ∧ wr.ownsRow w0.heap.size 3 1 (.slice (some ⟨g, 0, none⟩) ss.length cap) ss.length ((partT ss rs 1 k).map (Value.int .i64)) ∧ Below w0.heap.size w0 wr) (fun i _ => ss.length - (intOf i).toNat)
      case atStart => exact ⟨0, Nat.zero_le _, rfl, by rw [part_zero]; exact HO.out, HB1.out⟩
      case round =>
        obtain ⟨k, hk', rfl, hown, hbel⟩ := hrel
        have HBl := Lib.hid hbel
        by_cases hlt : k < ss.length
        · obtain ⟨rb, ro, rfl, hrb, hrc⟩ := (Hhq.out.below HB0.out).at (k := k) (by have := HF.out.len; omega)
          replace hrc := cell_below hbel hrc (by omega)
          have hbit := numsR_at HF.out.bits k (by have := HF.out.len; omega)
          have hval := numsR_at HF.out.bd k hlt
          have hcell := part_cell hown hlt
          have hfro := hown.frozenAt k
          have i1 : (0 : Int) ≤ (k : Int) := by omega
          have i2 : (k : Int) < (ss.length : Int) := by omega
          have i3 : (k : Int) < (rs.length : Int) := by have := HF.out.len; omega
          by_cases hb : rs.getD k 0 = 1
          · have HST := Lib.hid (part_store hown hlt hb (2 * ss.getD k 0) (by omega))
            rw [hb] at hrc
            clear hown hbel hb hbit
            generalize ss.getD k 0 = s at *
            go_wp2_with fail
            go_roundw
            case rel => exact ⟨k + 1, by omega, by go_num, HST.out, HBl.out.setCell (by first | omega | exact Nat.le_refl _) _⟩
            case measure => simp [intOf]; omega
          · have hz : rs.getD k 0 = 0 := by omega
            have HO2 := Lib.hid hown
            have HM := Lib.hid (part_miss ss rs 1 k hb)
            rw [hz] at hrc
            clear hown hbel hb hbit hz hcell hfro
            go_wp2_with fail
            go_roundw
            case rel => exact ⟨k + 1, by omega, by go_num, by rw [HM.out]; exact HO2.out, HBl.out⟩
            case measure => simp [intOf]; omega
        · obtain rfl : k = ss.length := by omega
          have HO2 := Lib.hid hown
          have i2 : ¬ (ss.length : Int) < (rs.length : Int) := by have := HF.out.len; omega
          clear hown hbel
          go_wp2_with fail
          go_ret2
          exact ⟨_, rfl, (OwnI.of (by rw [part_length]; exact HO2.out)).mono hsz (Nat.le_refl _), HB0.out.trans (HBl.out.mono hsz)⟩
set_option maxHeartbeats 1000000 in
theorem impl_says (a : Option Addr) (ss : List Int) (c : Nat) (a' : Option Addr) (rs : List Int) (c' : Nat) (w : World) (hr : ints.Reads .i64 w a ss) (hq : ints.Reads .i64 w a' rs) (hn : ss.length ≤ 1048576) (hl : ss.length ≤ rs.length) (hm : rs.length ≤ 1048576) (hS : Small ss rs) :
    Calls Try.prog 153 #[.slice a ss.length c, .slice a' rs.length c'] w (Tells (says ss rs) w) := by
  have HC := Lib.hid (impl_dot a ss c a' rs c' w hr hq (by omega) (by omega) (by omega) hS)
  clear hr hq hS
  by_cases hd : (ss.length : Int) ≤ dot ss rs
  · have g1 : decide ((ss.length : Int) ≤ dot ss rs) = true := by simp [hd]
    rw [show says ss rs = 1 from if_pos hd]
    clear hd
    generalize dot ss rs = d at *
    go_enter Try.func153, Try.ntmps153
    go_wp2_with fail
    refine HC.out.mono ?_
    rintro e w' ⟨rfl, m, rfl⟩
    go_wp2_with fail
    go_ret
    exact ⟨rfl, m, rfl⟩
  · have g1 : decide ((ss.length : Int) ≤ dot ss rs) = false := by simpa using hd
    rw [show says ss rs = 0 from if_neg hd]
    clear hd
    generalize dot ss rs = d at *
    go_enter Try.func153, Try.ntmps153
    go_wp2_with fail
    refine HC.out.mono ?_
    rintro e w' ⟨rfl, m, rfl⟩
    go_wp2_with fail
    go_ret
    exact ⟨rfl, m, rfl⟩
set_option maxRecDepth 100000 in
set_option maxHeartbeats 4000000 in
theorem impl_no (a : Option Addr) (ss : List Int) (c : Nat) (a' : Option Addr) (rs : List Int) (c' : Nat) (y : Int) (w : World) (hr : ints.Reads .i64 w a ss) (hq : ints.Reads .i64 w a' rs) (hn : ss.length ≤ 1048576) (hm : rs.length ≤ 1048576) (h : Hid (swB ss rs y = false)) :
    Calls Try.prog 127 #[.slice a ss.length c, .slice a' rs.length c', .int .i64 y] w (RetIBB [] false false w) := by
  have Hhr := Lib.hid hr
  have Hhq := Lib.hid hq
  clear hr hq
  cases h1 : sharesB ss
  · have H1 := Lib.hid h1
    clear h h1
    go_enter Try.func127, Try.ntmps127
    go_wp2_with fail
    refine (shares.impl_AreShares a ss c _ Hhr.out hn false H1).mono ?_
    rintro e w1 ⟨rfl, hb⟩
    have HB1 := Lib.hid hb
    clear hb
    go_wp2_with fail
    go_ret3
    exact ⟨_, rfl, (own_empty _).mono HB1.out.size (by simp), HB1.out.alloc HB1.out.size _⟩
  by_cases hl' : (rs.length : Int) ≠ (ss.length : Int)
  · have H1 := Lib.hid h1
    have g1 : ((rs.length : Int) != (ss.length : Int)) = true := by simp; omega
    clear h h1 hl'
    go_enter Try.func127, Try.ntmps127
    go_wp2_with fail
    refine (shares.impl_AreShares a ss c _ Hhr.out hn true H1).mono ?_
    rintro e w1 ⟨rfl, hb⟩
    have HB1 := Lib.hid hb
    clear hb
    go_wp2_with fail
    go_ret3
    exact ⟨_, rfl, (own_empty _).mono HB1.out.size (by simp), HB1.out.alloc HB1.out.size _⟩
  have hl : (rs.length : Int) = (ss.length : Int) := by omega
  clear hl'
  have g1 : ((rs.length : Int) != (ss.length : Int)) = false := by simp; omega
  cases h2 : numsR 0 1 rs
  · have H1 := Lib.hid h1
    have H2 := Lib.hid h2
    clear h h1 h2 hl
    go_enter Try.func127, Try.ntmps127
    go_wp2_with fail
    refine (shares.impl_AreShares a ss c _ Hhr.out hn true H1).mono ?_
    rintro e w1 ⟨rfl, hb⟩
    have HB1 := Lib.hid hb
    clear hb
    go_wp2_with fail
    refine (impl_bits a' rs c' _ (Hhq.out.below HB1.out) hm false H2).mono ?_
    rintro e w' ⟨rfl, m, rfl⟩
    have HB2 := Lib.hid (ints.below_drewN HB1.out m)
    generalize hw2 : w1.drewN m = w2 at *
    clear hw2
    go_wp2_with fail
    go_ret3
    exact ⟨_, rfl, (own_empty _).mono HB2.out.size (by simp), HB2.out.alloc HB2.out.size _⟩
  have h3 : inR 0 1 y = false := by have := h.out; simpa [swB, h1, h2, rowsB', hl] using this
  have H1 := Lib.hid h1
  have H2 := Lib.hid h2
  have H3 := Lib.hid h3
  clear h h1 h2 h3 hl
  go_enter Try.func127, Try.ntmps127
  go_wp2_with fail
  refine (shares.impl_AreShares a ss c _ Hhr.out hn true H1).mono ?_
  rintro e w1 ⟨rfl, hb⟩
  have HB1 := Lib.hid hb
  clear hb
  go_wp2_with fail
  refine (impl_bits a' rs c' _ (Hhq.out.below HB1.out) hm true H2).mono ?_
  rintro e w' ⟨rfl, m, rfl⟩
  have HB2 := Lib.hid (ints.below_drewN HB1.out m)
  generalize hw2 : w1.drewN m = w2 at *
  clear hw2
  go_wp2_with fail
  refine (bit_any _ _ false H3).mono ?_
  rintro e w' ⟨rfl, rfl⟩
  go_wp2_with fail
  go_ret3
  exact ⟨_, rfl, (own_empty _).mono HB2.out.size (by simp), HB2.out.alloc HB2.out.size _⟩
set_option maxRecDepth 100000 in
set_option maxHeartbeats 4000000 in
theorem impl_yes (a : Option Addr) (ss : List Int) (c : Nat) (a' : Option Addr) (rs : List Int) (c' : Nat) (y : Int) (w : World) (hr : ints.Reads .i64 w a ss) (hq : ints.Reads .i64 w a' rs) (hn : ss.length ≤ 1048576) (hm : rs.length ≤ 1048576) (h : Hid (swB ss rs y = true)) :
    Calls Try.prog 127 #[.slice a ss.length c, .slice a' rs.length c', .int .i64 y] w (RetIBB (next ss rs y) (decide (says ss rs = y)) true w) := by
  obtain ⟨i0, hi, hz0, hz1, hz2⟩ := info_parts infoInt
  have hF := Fit.of h.out
  have HF := Lib.hid hF
  have h1 := hF.pos
  have h8 := hF.le
  have hl8 := hF.len
  have g1 : ((rs.length : Int) != (ss.length : Int)) = false := by simp; omega
  have HL := Lib.hid hl8
  clear hl8
  obtain ⟨k1, k2, k3⟩ := (swB_iff _ _ _).1 h.out
  have H1 := Lib.hid k1
  have H2 := Lib.hid hF.bits
  have H3 := Lib.hid k3
  have HS := Lib.hid hF.small
  have hy := hF.ans
  have Hhr := Lib.hid hr
  have Hhq := Lib.hid hq
  clear hr hq
  have HP := Lib.hid (show ∀ r, r = next ss rs y → ∀ o, o = decide (says ss rs = y) → RetIBB (next ss rs y) (decide (says ss rs = y)) true w = RetIBB r o true w from fun r hr o ho => by rw [hr, ho])
  have hsy : says ss rs = 0 ∨ says ss rs = 1 := by unfold says; split <;> simp
  clear k1 k2 k3 h hF
  rcases hsy with hs | hs
  · rcases hy with rfl | rfl
    · rw [HP.out ss (next_says hs).symm true (by rw [hs]; rfl)]
      have HSY := Lib.hid hs
      clear hs HP
      go_enter Try.func127, Try.ntmps127
      go_wp2_with fail
      refine (shares.impl_AreShares a ss c _ Hhr.out hn true H1).mono ?_
      rintro e w1 ⟨rfl, hb⟩
      have HB1 := Lib.hid hb
      clear hb
      go_wp2_with fail
      refine (impl_bits a' rs c' _ (Hhq.out.below HB1.out) hm true H2).mono ?_
      rintro e w' ⟨rfl, m, rfl⟩
      have HB2 := Lib.hid (ints.below_drewN HB1.out m)
      generalize hw2 : w1.drewN m = w2 at *
      clear hw2
      go_wp2_with fail
      refine (bit_any _ _ true H3).mono ?_
      rintro e w' ⟨rfl, rfl⟩
      go_wp2_with (first | (refine wpList_make_full _ rfl _ _ 23 rfl w2.heap.size 3 i0 (.int .i64 0) 1 Try.underlying23 hi hz0 hz1 .i64 .i64 _ _ ss.length rfl rfl rfl rfl (by rw [hz2]; omega) (by unfold maxLen; omega) (Nat.le_refl _) ?_; intro w3 hown1 hgrow1; refine Hid.out ?_) | fail)
      refine Lib.hid ?_
      have hb1 : Below w2.heap.size w2 w3 := (Below.refl _ _).grown hgrow1 (Nat.le_refl _) (by simp)
      have HO1 := Lib.hid hown1
      have HB3 := Lib.hid hb1
      clear hown1 hb1 hgrow1
      go_wp2_with (refine copyw.wp_copy (o := ⟨some 39, _, _, _, _, _⟩) rfl (.tmp 37) (.tmp 38) 23 3 rfl Try.underlying23 (by rw [hi]; simp [hz1]) w2.heap.size w2.heap.size ss.length ss.length _ (by rfl) HO1.out a c ss (by rfl) rfl (Hhr.out.below (HB2.out.trans (HB3.out.mono HB2.out.size))) w2.heap.size w2 HB3.out (Nat.le_refl _) ?_; intro w4 hown4 hb4; refine Hid.out ?_)
      refine Lib.hid ?_
      have HO := Lib.hid hown4
      have HB1' := Lib.hid hb4
      clear hown4 hb4
      go_wp2_with fail
      refine (impl_says a ss c a' rs c' _ (Hhr.out.below (HB2.out.trans (HB1'.out.mono HB2.out.size))) (Hhq.out.below (HB2.out.trans (HB1'.out.mono HB2.out.size))) hn (by have := HL.out; omega) hm HS.out).mono ?_
      rintro e w' ⟨rfl, m, rfl⟩
      rw [HSY.out]
      have HO' := Lib.hid (show (w4.drewN m).ownsRow w2.heap.size 3 1 (.slice (some ⟨w2.heap.size, 0, none⟩) ss.length ss.length) ss.length (ss.map (Value.int .i64)) from HO.out)
      have HB4 := Lib.hid (ints.below_drewN HB1'.out m)
      generalize hw5 : w4.drewN m = w5 at *
      clear hw5 HO HB1'
      have HO := HO'
      have HBW := HB4
      clear HO'
      have hsz := HB2.out.size
      go_wp2_with fail
      go_ret3
      exact ⟨_, rfl, (OwnI.of HO.out).mono hsz (Nat.le_refl _), HB2.out.trans (HBW.out.mono hsz)⟩
    · rw [HP.out (partT ss rs 1 ss.length) (next_wrong (by rw [hs]; decide)).symm false (by rw [hs]; rfl)]
      have HSY := Lib.hid hs
      clear hs HP
      go_enter Try.func127, Try.ntmps127
      go_wp2_with fail
      refine (shares.impl_AreShares a ss c _ Hhr.out hn true H1).mono ?_
      rintro e w1 ⟨rfl, hb⟩
      have HB1 := Lib.hid hb
      clear hb
      go_wp2_with fail
      refine (impl_bits a' rs c' _ (Hhq.out.below HB1.out) hm true H2).mono ?_
      rintro e w' ⟨rfl, m, rfl⟩
      have HB2 := Lib.hid (ints.below_drewN HB1.out m)
      generalize hw2 : w1.drewN m = w2 at *
      clear hw2
      go_wp2_with fail
      refine (bit_any _ _ true H3).mono ?_
      rintro e w' ⟨rfl, rfl⟩
      go_wp2_with (first | (refine wpList_make_full _ rfl _ _ 23 rfl w2.heap.size 3 i0 (.int .i64 0) 1 Try.underlying23 hi hz0 hz1 .i64 .i64 _ _ ss.length rfl rfl rfl rfl (by rw [hz2]; omega) (by unfold maxLen; omega) (Nat.le_refl _) ?_; intro w3 hown1 hgrow1; refine Hid.out ?_) | fail)
      refine Lib.hid ?_
      have hb1 : Below w2.heap.size w2 w3 := (Below.refl _ _).grown hgrow1 (Nat.le_refl _) (by simp)
      have HO1 := Lib.hid hown1
      have HB3 := Lib.hid hb1
      clear hown1 hb1 hgrow1
      go_wp2_with (refine copyw.wp_copy (o := ⟨some 39, _, _, _, _, _⟩) rfl (.tmp 37) (.tmp 38) 23 3 rfl Try.underlying23 (by rw [hi]; simp [hz1]) w2.heap.size w2.heap.size ss.length ss.length _ (by rfl) HO1.out a c ss (by rfl) rfl (Hhr.out.below (HB2.out.trans (HB3.out.mono HB2.out.size))) w2.heap.size w2 HB3.out (Nat.le_refl _) ?_; intro w4 hown4 hb4; refine Hid.out ?_)
      refine Lib.hid ?_
      have HO := Lib.hid hown4
      have HB1' := Lib.hid hb4
      clear hown4 hb4
      go_wp2_with fail
      refine (impl_says a ss c a' rs c' _ (Hhr.out.below (HB2.out.trans (HB1'.out.mono HB2.out.size))) (Hhq.out.below (HB2.out.trans (HB1'.out.mono HB2.out.size))) hn (by have := HL.out; omega) hm HS.out).mono ?_
      rintro e w' ⟨rfl, m, rfl⟩
      rw [HSY.out]
      have HO' := Lib.hid (show (w4.drewN m).ownsRow w2.heap.size 3 1 (.slice (some ⟨w2.heap.size, 0, none⟩) ss.length ss.length) ss.length (ss.map (Value.int .i64)) from HO.out)
      have HB4 := Lib.hid (ints.below_drewN HB1'.out m)
      generalize hw5 : w4.drewN m = w5 at *
      clear hw5 HO HB1'
      have HO := HO'
      have HBW := HB4
      clear HO'
      have hsz := HB2.out.size
      go_wp2_with fail
      go_loopw [50] (fun i wr => ∃ k : Nat, k ≤ ss.length ∧ i = .int .i64 k ∧ wr.ownsRow w2.heap.size 3 1 (.slice (some ⟨w2.heap.size, 0, none⟩) ss.length ss.length) ss.length ((partT ss rs 1 k).map (Value.int .i64)) ∧ Below w2.heap.size w2 wr) (fun i _ => ss.length - (intOf i).toNat)
      case atStart => exact ⟨0, Nat.zero_le _, rfl, by rw [part_zero]; exact HO.out, HBW.out⟩
      case round =>
        obtain ⟨k, hk', rfl, hown, hbel⟩ := hrel
        have HBl := Lib.hid hbel
        by_cases hlt : k < ss.length
        · obtain ⟨rb, ro, rfl, hrb, hrc⟩ := (Hhq.out.below HB2.out).at (k := k) (by have := HF.out.len; omega)
          replace hrc := cell_below hbel hrc (by omega)
          have hbit := numsR_at HF.out.bits k (by have := HF.out.len; omega)
          have hval := numsR_at HF.out.bd k hlt
          have hcell := part_cell hown hlt
          have hfro := hown.frozenAt k
          have i1 : (0 : Int) ≤ (k : Int) := by omega
          have i2 : (k : Int) < (ss.length : Int) := by omega
          have i3 : (k : Int) < (rs.length : Int) := by have := HF.out.len; omega
          by_cases hb : rs.getD k 0 = 1
          · have HST := Lib.hid (part_store hown hlt hb (ss.getD k 0 * 2) (by omega))
            rw [hb] at hrc
            clear hown hbel hb hbit
            generalize ss.getD k 0 = s at *
            go_wp2_with fail
            go_roundw
            case rel => exact ⟨k + 1, by omega, by go_num, HST.out, HBl.out.setCell (by first | omega | exact Nat.le_refl _) _⟩
            case measure => simp [intOf]; omega
          · have hz : rs.getD k 0 = 0 := by omega
            have HO2 := Lib.hid hown
            have HM := Lib.hid (part_miss ss rs 1 k hb)
            rw [hz] at hrc
            clear hown hbel hb hbit hz hcell hfro
            go_wp2_with fail
            go_roundw
            case rel => exact ⟨k + 1, by omega, by go_num, by rw [HM.out]; exact HO2.out, HBl.out⟩
            case measure => simp [intOf]; omega
        · obtain rfl : k = ss.length := by omega
          have HO2 := Lib.hid hown
          have i2 : ¬ (ss.length : Int) < (rs.length : Int) := by have := HF.out.len; omega
          clear hown hbel
          go_wp2_with fail
          go_ret3
          exact ⟨_, rfl, (OwnI.of (by rw [part_length]; exact HO2.out)).mono hsz (Nat.le_refl _), HB2.out.trans (HBl.out.mono hsz)⟩
  · rcases hy with rfl | rfl
    · rw [HP.out (partT ss rs 0 ss.length) (next_wrong (by rw [hs]; decide)).symm false (by rw [hs]; rfl)]
      have HSY := Lib.hid hs
      clear hs HP
      go_enter Try.func127, Try.ntmps127
      go_wp2_with fail
      refine (shares.impl_AreShares a ss c _ Hhr.out hn true H1).mono ?_
      rintro e w1 ⟨rfl, hb⟩
      have HB1 := Lib.hid hb
      clear hb
      go_wp2_with fail
      refine (impl_bits a' rs c' _ (Hhq.out.below HB1.out) hm true H2).mono ?_
      rintro e w' ⟨rfl, m, rfl⟩
      have HB2 := Lib.hid (ints.below_drewN HB1.out m)
      generalize hw2 : w1.drewN m = w2 at *
      clear hw2
      go_wp2_with fail
      refine (bit_any _ _ true H3).mono ?_
      rintro e w' ⟨rfl, rfl⟩
      go_wp2_with (first | (refine wpList_make_full _ rfl _ _ 23 rfl w2.heap.size 3 i0 (.int .i64 0) 1 Try.underlying23 hi hz0 hz1 .i64 .i64 _ _ ss.length rfl rfl rfl rfl (by rw [hz2]; omega) (by unfold maxLen; omega) (Nat.le_refl _) ?_; intro w3 hown1 hgrow1; refine Hid.out ?_) | fail)
      refine Lib.hid ?_
      have hb1 : Below w2.heap.size w2 w3 := (Below.refl _ _).grown hgrow1 (Nat.le_refl _) (by simp)
      have HO1 := Lib.hid hown1
      have HB3 := Lib.hid hb1
      clear hown1 hb1 hgrow1
      go_wp2_with (refine copyw.wp_copy (o := ⟨some 39, _, _, _, _, _⟩) rfl (.tmp 37) (.tmp 38) 23 3 rfl Try.underlying23 (by rw [hi]; simp [hz1]) w2.heap.size w2.heap.size ss.length ss.length _ (by rfl) HO1.out a c ss (by rfl) rfl (Hhr.out.below (HB2.out.trans (HB3.out.mono HB2.out.size))) w2.heap.size w2 HB3.out (Nat.le_refl _) ?_; intro w4 hown4 hb4; refine Hid.out ?_)
      refine Lib.hid ?_
      have HO := Lib.hid hown4
      have HB1' := Lib.hid hb4
      clear hown4 hb4
      go_wp2_with fail
      refine (impl_says a ss c a' rs c' _ (Hhr.out.below (HB2.out.trans (HB1'.out.mono HB2.out.size))) (Hhq.out.below (HB2.out.trans (HB1'.out.mono HB2.out.size))) hn (by have := HL.out; omega) hm HS.out).mono ?_
      rintro e w' ⟨rfl, m, rfl⟩
      rw [HSY.out]
      have HO' := Lib.hid (show (w4.drewN m).ownsRow w2.heap.size 3 1 (.slice (some ⟨w2.heap.size, 0, none⟩) ss.length ss.length) ss.length (ss.map (Value.int .i64)) from HO.out)
      have HB4 := Lib.hid (ints.below_drewN HB1'.out m)
      generalize hw5 : w4.drewN m = w5 at *
      clear hw5 HO HB1'
      have HO := HO'
      have HBW := HB4
      clear HO'
      have hsz := HB2.out.size
      go_wp2_with fail
      go_loopw [50] (fun i wr => ∃ k : Nat, k ≤ ss.length ∧ i = .int .i64 k ∧ wr.ownsRow w2.heap.size 3 1 (.slice (some ⟨w2.heap.size, 0, none⟩) ss.length ss.length) ss.length ((partT ss rs 0 k).map (Value.int .i64)) ∧ Below w2.heap.size w2 wr) (fun i _ => ss.length - (intOf i).toNat)
      case atStart => exact ⟨0, Nat.zero_le _, rfl, by rw [part_zero]; exact HO.out, HBW.out⟩
      case round =>
        obtain ⟨k, hk', rfl, hown, hbel⟩ := hrel
        have HBl := Lib.hid hbel
        by_cases hlt : k < ss.length
        · obtain ⟨rb, ro, rfl, hrb, hrc⟩ := (Hhq.out.below HB2.out).at (k := k) (by have := HF.out.len; omega)
          replace hrc := cell_below hbel hrc (by omega)
          have hbit := numsR_at HF.out.bits k (by have := HF.out.len; omega)
          have hval := numsR_at HF.out.bd k hlt
          have hcell := part_cell hown hlt
          have hfro := hown.frozenAt k
          have i1 : (0 : Int) ≤ (k : Int) := by omega
          have i2 : (k : Int) < (ss.length : Int) := by omega
          have i3 : (k : Int) < (rs.length : Int) := by have := HF.out.len; omega
          by_cases hb : rs.getD k 0 = 1
          · have HST := Lib.hid (part_store hown hlt hb (0) (by omega))
            rw [hb] at hrc
            clear hown hbel hb hbit
            generalize ss.getD k 0 = s at *
            go_wp2_with fail
            go_roundw
            case rel => exact ⟨k + 1, by omega, by go_num, HST.out, HBl.out.setCell (by first | omega | exact Nat.le_refl _) _⟩
            case measure => simp [intOf]; omega
          · have hz : rs.getD k 0 = 0 := by omega
            have HO2 := Lib.hid hown
            have HM := Lib.hid (part_miss ss rs 0 k hb)
            rw [hz] at hrc
            clear hown hbel hb hbit hz hcell hfro
            go_wp2_with fail
            go_roundw
            case rel => exact ⟨k + 1, by omega, by go_num, by rw [HM.out]; exact HO2.out, HBl.out⟩
            case measure => simp [intOf]; omega
        · obtain rfl : k = ss.length := by omega
          have HO2 := Lib.hid hown
          have i2 : ¬ (ss.length : Int) < (rs.length : Int) := by have := HF.out.len; omega
          clear hown hbel
          go_wp2_with fail
          go_ret3
          exact ⟨_, rfl, (OwnI.of (by rw [part_length]; exact HO2.out)).mono hsz (Nat.le_refl _), HB2.out.trans (HBl.out.mono hsz)⟩
    · rw [HP.out ss (next_says hs).symm true (by rw [hs]; rfl)]
      have HSY := Lib.hid hs
      clear hs HP
      go_enter Try.func127, Try.ntmps127
      go_wp2_with fail
      refine (shares.impl_AreShares a ss c _ Hhr.out hn true H1).mono ?_
      rintro e w1 ⟨rfl, hb⟩
      have HB1 := Lib.hid hb
      clear hb
      go_wp2_with fail
      refine (impl_bits a' rs c' _ (Hhq.out.below HB1.out) hm true H2).mono ?_
      rintro e w' ⟨rfl, m, rfl⟩
      have HB2 := Lib.hid (ints.below_drewN HB1.out m)
      generalize hw2 : w1.drewN m = w2 at *
      clear hw2
      go_wp2_with fail
      refine (bit_any _ _ true H3).mono ?_
      rintro e w' ⟨rfl, rfl⟩
      go_wp2_with (first | (refine wpList_make_full _ rfl _ _ 23 rfl w2.heap.size 3 i0 (.int .i64 0) 1 Try.underlying23 hi hz0 hz1 .i64 .i64 _ _ ss.length rfl rfl rfl rfl (by rw [hz2]; omega) (by unfold maxLen; omega) (Nat.le_refl _) ?_; intro w3 hown1 hgrow1; refine Hid.out ?_) | fail)
      refine Lib.hid ?_
      have hb1 : Below w2.heap.size w2 w3 := (Below.refl _ _).grown hgrow1 (Nat.le_refl _) (by simp)
      have HO1 := Lib.hid hown1
      have HB3 := Lib.hid hb1
      clear hown1 hb1 hgrow1
      go_wp2_with (refine copyw.wp_copy (o := ⟨some 39, _, _, _, _, _⟩) rfl (.tmp 37) (.tmp 38) 23 3 rfl Try.underlying23 (by rw [hi]; simp [hz1]) w2.heap.size w2.heap.size ss.length ss.length _ (by rfl) HO1.out a c ss (by rfl) rfl (Hhr.out.below (HB2.out.trans (HB3.out.mono HB2.out.size))) w2.heap.size w2 HB3.out (Nat.le_refl _) ?_; intro w4 hown4 hb4; refine Hid.out ?_)
      refine Lib.hid ?_
      have HO := Lib.hid hown4
      have HB1' := Lib.hid hb4
      clear hown4 hb4
      go_wp2_with fail
      refine (impl_says a ss c a' rs c' _ (Hhr.out.below (HB2.out.trans (HB1'.out.mono HB2.out.size))) (Hhq.out.below (HB2.out.trans (HB1'.out.mono HB2.out.size))) hn (by have := HL.out; omega) hm HS.out).mono ?_
      rintro e w' ⟨rfl, m, rfl⟩
      rw [HSY.out]
      have HO' := Lib.hid (show (w4.drewN m).ownsRow w2.heap.size 3 1 (.slice (some ⟨w2.heap.size, 0, none⟩) ss.length ss.length) ss.length (ss.map (Value.int .i64)) from HO.out)
      have HB4 := Lib.hid (ints.below_drewN HB1'.out m)
      generalize hw5 : w4.drewN m = w5 at *
      clear hw5 HO HB1'
      have HO := HO'
      have HBW := HB4
      clear HO'
      have hsz := HB2.out.size
      go_wp2_with fail
      go_ret3
      exact ⟨_, rfl, (OwnI.of HO.out).mono hsz (Nat.le_refl _), HB2.out.trans (HBW.out.mono hsz)⟩
end Go.Proofs.Ytocbklmkphgkeaa.turn
