/- The walks of the model's and the program's OrAnswers. -/
import Derived.Test.YtfooajnjkkpkiaaRowsW
import Derived.Test.YtfooajnjkkpkiaaRising
import Derived.Test.YtfooajnjkkpkiaaMisBound
namespace Go.Proofs.Ytfooajnjkkpkiaa.orw
open Go.RowKit own pp nums range winbound rowsw rising
set_option linter.unusedVariables false
set_option linter.unusedSimpArgs false

theorem infoInt : (Try.prog.info? 3).map (fun i => (i.zero, i.size, i.bytes)) = some (some (.int .i64 0), 1, 8) := by kernel_rfl

/-- The greatest number of a row at the first k places of a set, or 0. -/
def orMax (r set : List Int) : Nat → Int
  | 0 => 0
  | k + 1 => max (orMax r set k) (r.getD (set.getD k 0).toNat 0)
def hasOne (r set : List Int) : Bool := set.any fun p => r.getD p.toNat 0 == 1
def orOf (r set : List Int) : Int := orMax r set set.length
def ors (rows : List (List Int)) (set : List Int) (k : Nat) : List Int := (List.range k).map fun i => orOf (rows.getD i []) set
theorem ors_length (rows : List (List Int)) (set : List Int) (k : Nat) : (ors rows set k).length = k := by simp [ors]
theorem ors_succ (rows : List (List Int)) (set : List Int) (k : Nat) : ors rows set (k + 1) = ors rows set k ++ [orOf (rows.getD k []) set] := by simp [ors, List.range_succ]

/-- What the answers ask for. -/
def orB (n : Int) (rows : List (List Int)) (set : List Int) : Bool := allB n rows && risesB n set
theorem orB_iff (n : Int) (rows : List (List Int)) (set : List Int) : orB n rows set = true ↔ allB n rows = true ∧ risesB n set = true := by simp [orB]
structure Fit (n : Int) (rows : List (List Int)) (set : List Int) : Prop where
  pos : 1 ≤ n
  le : n ≤ 8
  many : rows.length ≤ 40
  len : ∀ k, k < rows.length → ((rows.getD k []).length : Int) = n
  bits : ∀ k, k < rows.length → numsR 0 1 (rows.getD k []) = true
  set : ∀ k, k < set.length → 0 ≤ set.getD k 0 ∧ set.getD k 0 ≤ n - 1
theorem fit_all {n : Int} {rows : List (List Int)} (h : allB n rows = true) : 1 ≤ n ∧ n ≤ 8 ∧ rows.length ≤ 40 ∧ ∀ k, k < rows.length → ((rows.getD k []).length : Int) = n ∧ numsR 0 1 (rows.getD k []) = true := by
  simp only [allB, Bool.and_eq_true, decide_eq_true_eq] at h
  refine ⟨h.1.2.1, h.1.2.2, by omega, fun k hk => ?_⟩
  have := all_at _ [] rows h.1.1 k hk
  simp only [rowsB', Bool.and_eq_true, decide_eq_true_eq] at this
  exact ⟨this.2, this.1⟩
theorem Fit.of {n : Int} {rows : List (List Int)} {set : List Int} (h : orB n rows set = true) : Fit n rows set := by
  obtain ⟨h1, h2⟩ := (orB_iff _ _ _).1 h
  obtain ⟨a, b, c, d⟩ := fit_all h1
  refine ⟨a, b, c, fun k hk => (d k hk).1, fun k hk => (d k hk).2, fun k hk => ?_⟩
  have := rises_at h2 k hk
  simp only [riseAt, Bool.and_eq_true, decide_eq_true_eq] at this
  exact this.1
theorem bit_of {r : List Int} (h : numsR 0 1 r = true) (k : Nat) : 0 ≤ r.getD k 0 ∧ r.getD k 0 ≤ 1 := by
  by_cases hk : k < r.length
  · exact numsR_at h k hk
  · rw [List.getD_eq_getElem?_getD, List.getElem?_eq_none (by omega)]; simp
theorem max_bit {r set : List Int} (h : numsR 0 1 r = true) (k : Nat) (hk0 : k ≤ set.length) : orMax r set k = if (set.take k).any (fun p => r.getD p.toNat 0 == 1) then 1 else 0 := by
  induction k with
  | zero => rfl
  | succ k ih =>
    show max (orMax r set k) (r.getD (set.getD k 0).toNat 0) = _
    rw [ih (by omega)]
    have hk : k < set.length := by omega
    · rw [List.take_succ_eq_append_getElem hk, List.any_append]
      have e : set.getD k 0 = set[k] := by rw [List.getD_eq_getElem?_getD, List.getElem?_eq_getElem hk]; rfl
      have hb := bit_of h (set.getD k 0).toNat
      rw [e] at hb ⊢
      simp only [List.any_cons, List.any_nil, Bool.or_false]
      generalize r.getD (set[k]).toNat 0 = z at *
      cases hx : (set.take k).any fun p => r.getD p.toNat 0 == 1
      · by_cases hz : z = 1
        · simp [hz]; rfl
        · have : z = 0 := by omega
          simp [this]
      · simp; omega
theorem or_has {r set : List Int} (h : numsR 0 1 r = true) : orOf r set = if hasOne r set then 1 else 0 := by
  unfold orOf hasOne
  rw [max_bit h _ (Nat.le_refl _), List.take_length]
set_option maxRecDepth 100000 in
set_option maxHeartbeats 4000000 in
theorem spec_no (n : Int) (a : Option Addr) (rows : List (List Int)) (c : Nat) (a' : Option Addr) (set : List Int) (c' : Nat) (w : World) (hr : grid.Reads w a rows) (hq : ints.Reads .i64 w a' set) (hn : rows.length ≤ 1048576) (hm : ∀ r ∈ rows, r.length ≤ 1048576) (hk : set.length ≤ 1048576) (h : Hid (orB n rows set = false)) :
    Calls Try.prog 40 #[.int .i64 n, .slice a rows.length c, .slice a' set.length c'] w (RetIB [] false w) := by
  have Hhr := Lib.hid hr
  have Hhq := Lib.hid hq
  have HM := Lib.hid hm
  clear hr hq hm
  have HB := Lib.hid (below_alloc w (.cells #[] 3))
  cases h1 : allB n rows
  · have H1 := Lib.hid h1
    clear h h1
    go_enter Try.func40, Try.ntmps40
    go_wp2_with fail
    refine (spec_rows n a rows c _ (Hhr.out.below HB.out) hn HM.out false H1).mono ?_
    rintro e w' ⟨rfl, rfl⟩
    go_wp2_with fail
    go_ret2
    exact ⟨_, rfl, (own_empty _).mono (Nat.le_refl _) (by simp), HB.out⟩
  · have h2 : risesB n set = false := by have := h.out; simpa [orB, h1] using this
    obtain ⟨f1, f2, _, _⟩ := fit_all h1
    have H1 := Lib.hid h1
    have H2 := Lib.hid h2
    clear h h1 h2
    go_enter Try.func40, Try.ntmps40
    go_wp2_with fail
    refine (spec_rows n a rows c _ (Hhr.out.below HB.out) hn HM.out true H1).mono ?_
    rintro e w' ⟨rfl, rfl⟩
    go_wp2_with fail
    refine (spec_rising a' set c' n _ (Hhq.out.below HB.out) hk false H2).mono ?_
    rintro e w' ⟨rfl, m, rfl⟩
    go_wp2_with fail
    go_ret2
    exact ⟨_, rfl, (own_empty _).mono (Nat.le_refl _) (by simp), ints.below_drewN HB.out _⟩

set_option maxRecDepth 100000 in
set_option maxHeartbeats 4000000 in
theorem spec_yes (n : Int) (a : Option Addr) (rows : List (List Int)) (c : Nat) (a' : Option Addr) (set : List Int) (c' : Nat) (w : World) (hr : grid.Reads w a rows) (hq : ints.Reads .i64 w a' set) (hn : rows.length ≤ 1048576) (hm : ∀ r ∈ rows, r.length ≤ 1048576) (hk : set.length ≤ 1048576) (h : Hid (orB n rows set = true)) :
    Calls Try.prog 40 #[.int .i64 n, .slice a rows.length c, .slice a' set.length c'] w (RetIB (ors rows set rows.length) true w) := by
  obtain ⟨i0, hi, hz0, hz1, hz2⟩ := info_parts infoInt
  have HF := Lib.hid (Fit.of h.out)
  obtain ⟨h1, h2⟩ := (orB_iff _ _ _).1 h.out
  have f1 := HF.out.pos
  have f2 := HF.out.le
  have H1 := Lib.hid h1
  have H2 := Lib.hid h2
  have Hhr := Lib.hid hr
  have Hhq := Lib.hid hq
  have HM := Lib.hid hm
  clear hr hq hm h h1 h2
  have HB := Lib.hid (below_alloc w (.cells #[] 3))
  have HO0 := Lib.hid (own_empty w).1
  go_enter Try.func40, Try.ntmps40
  go_wp2_with fail
  refine (spec_rows n a rows c _ (Hhr.out.below HB.out) hn HM.out true H1).mono ?_
  rintro e w' ⟨rfl, rfl⟩
  go_wp2_with fail
  refine (spec_rising a' set c' n _ (Hhq.out.below HB.out) hk true H2).mono ?_
  rintro e w' ⟨rfl, m, rfl⟩
  have HB1 := Lib.hid (ints.below_drewN HB.out m)
  have HO1 := Lib.hid (show ((w.alloc (.cells #[] 3)).drewN m).ownsRow w.heap.size 3 1 (.slice (some ⟨w.heap.size, 0, none⟩) 0 0) 0 [] from HO0.out)
  generalize hw1 : (w.alloc (.cells #[] 3)).drewN m = w1 at *
  clear hw1 HO0 HB
  go_wp2_with fail
  go_loopw [8, 9] (fun v i wr => ∃ k : Nat, k ≤ rows.length ∧ i = .int .i64 k ∧ wr.ownsRow w.heap.size 3 1 v k ((ors rows set k).map (Value.int .i64)) ∧ Below w.heap.size w wr) (fun _ i _ => rows.length - (intOf i).toNat)
  case atStart => exact ⟨0, Nat.zero_le _, rfl, HO1.out, HB1.out⟩
  case round =>
    obtain ⟨i, hi', rfl, hown, hbel⟩ := hrel
    have HV := Lib.hid hown.lt
    have HO := Lib.hid hown
    have HBl := Lib.hid hbel
    have hsz := hbel.size
    clear HO1 HB1
    by_cases hlt : i < rows.length
    · obtain ⟨bl, off, rp, rq, rfl, hbl, hc, hpq, hrow⟩ := Hhr.out.at hlt
      replace hc := cell_below hbel hc (by omega)
      have HR := Lib.hid (hrow.below hbel)
      have hrl := HF.out.len i hlt
      have HBits := Lib.hid (HF.out.bits i hlt)
      have HS := Lib.hid (ors_succ rows set i)
      have HQ := Lib.hid (Hhq.out.below hbel)
      have i1 : (0 : Int) ≤ (i : Int) := by omega
      have i2 : (i : Int) < (rows.length : Int) := by omega
      clear hown hbel hrow hpq
      generalize rows.getD i [] = r at *
      go_wp2_with fail
      go_loopw [10, 11] (fun v j wq => ∃ k : Nat, k ≤ set.length ∧ j = .int .i64 k ∧ v = .int .i64 (orMax r set k) ∧ ∃ m, wq = wr.drewN m) (fun _ j _ => set.length - (intOf j).toNat)
      case atStart => exact ⟨0, Nat.zero_le _, rfl, rfl, 0, rfl⟩
      case round =>
        obtain ⟨k, hk', rfl, rfl, m, rfl⟩ := hrel
        have hcm : (wr.drewN m).cell? ⟨bl, off + i, none⟩ = some (.slice rp r.length rq) := hc
        have HQm := Lib.hid (show ints.Reads .i64 (wr.drewN m) a' set from HQ.out)
        have HRm := Lib.hid (show ints.Reads .i64 (wr.drewN m) rp r from HR.out)
        generalize hwq : wr.drewN m = wq at *
        have HWQ := Lib.hid hwq
        clear hwq hc
        by_cases hk2 : k < set.length
        · obtain ⟨sb, so, rfl, hsb, hsc⟩ := HQm.out.at hk2
          have hsr := HF.out.set k hk2
          obtain ⟨rb, ro, rfl, hrb, hrc⟩ := HRm.out.at (k := (set.getD k 0).toNat) (by omega)
          have HE := Lib.hid (show orMax r set (k + 1) = max (orMax r set k) (r.getD (set.getD k 0).toNat 0) from rfl)
          have j1 : (0 : Int) ≤ (k : Int) := by omega
          have j2 : (k : Int) < (set.length : Int) := by omega
          have j3 : set.getD k 0 < (r.length : Int) := by omega
          have j4 := hsr.1
          clear hsr hrl
          generalize set.getD k 0 = p at *
          generalize r.getD p.toNat 0 = z at *
          generalize orMax r set k = x at *
          go_wp2_with fail
          go_quiet ((go_at_call 108; exact Calls.quiet_of_same (misbound.most_any _ _ _)))
          go_wp2_with fail
          go_roundw
          case rel => exact ⟨k + 1, by omega, by go_num, by rw [HE.out], _, by rw [← HWQ.out, World.drewN_drewN]⟩
          case measure => simp [intOf]; omega
        · obtain rfl : k = set.length := by omega
          have hog : wq.ownsRow w.heap.size 3 1 u8 i ((ors rows set i).map (Value.int .i64)) := by rw [← HWQ.out]; exact HO.out
          have HBq := Lib.hid (show Below w.heap.size w wq by rw [← HWQ.out]; exact ints.below_drewN HBl.out _)
          have hszq := HBq.out.size
          have HS2 := Lib.hid (show ors rows set (i + 1) = ors rows set i ++ [orMax r set set.length] from HS.out)
          clear HS hcm hrl
          generalize orMax r set set.length = x at *
          go_wp2_with (at_builtin; refine wpList_append_own _ rfl _ _ 25 rfl w.heap.size 3 i0 (.int .i64 0) 1 8 Try.underlying25 hi hz0 hz1 hz2 rfl (by decide) _ _ _ rfl (hog.alloc _) ⟨wq.heap.size, 0, none⟩ 1 1 [.int .i64 x] rfl rfl (cell_one_new _ _ _) (by simp [Value.oneCell']) (by unfold maxLen; omega) (by omega) (by simp; omega) ?_; intro v' w2 hown' hgrow _)
          obtain ⟨g', cap', hv'⟩ := ownsRow_succ hown'
          subst hv'
          have HO2 := Lib.hid hown'
          have HB2 := Lib.hid ((HBq.out.alloc hszq _).grown hgrow (by simp; omega) (fun g e => (HV.out g e).1))
          clear hog hown' hgrow
          go_wp2_with fail
          go_roundw
          case rel => exact ⟨i + 1, by omega, by go_num, by rw [HS2.out, List.map_append]; exact HO2.out, HB2.out⟩
          case measure => simp [intOf]; omega
    · obtain rfl : i = rows.length := by omega
      have HF1 := Lib.hid (show RetIB (ors rows set rows.length) true w (.returned (.tuple #[u8, .bool true])) wr from ⟨u8, rfl, (OwnI.of (by rw [ors_length]; exact hown)), HBl.out⟩)
      clear hown hbel
      go_wp2_with fail
      go_ret2
      exact HF1.out
theorem one_at (b : Nat) (rp : Option Addr) (r : List Int) (rq : Nat) (w : World) (hc : w.cell? ⟨b, 0, none⟩ = some (.slice rp r.length rq)) (hb : b < w.heap.size) (hr : ints.Reads .i64 w rp r) (p : Int) (hp : 0 ≤ p) (hp2 : p < (r.length : Int)) (hn : r.length ≤ 1048576) (W : World) (hB : Below w.heap.size w W) :
    FnGives Try.prog 105 #[.pointer (some ⟨b, 0, none⟩)] #[.int .i64 p] (.bool (r.getD p.toNat 0 == 1)) W := by
  show Calls Try.prog _ #[.int .i64 p, .pointer (some ⟨b, 0, none⟩)] W _
  have hc2 := cell_below hB hc hb
  obtain ⟨rb, ro, rfl, hrb, hrc⟩ := (hr.below hB).at (k := p.toNat) (by omega)
  clear hB hc hr
  generalize r.getD p.toNat 0 = z at *
  go_enter Try.func105, Try.ntmps105
  go_wp2_with fail
  go_ret
  exact ⟨rfl, 0, rfl⟩
theorem any_set (r set : List Int) (m : Nat) (h : set.length = m) : (List.finRange m).any (fun i => r.getD (set.getD i.val 0).toNat 0 == 1) = hasOne r set := by
  unfold hasOne
  rw [Bool.eq_iff_iff]
  simp only [List.any_eq_true, List.mem_finRange, true_and]
  constructor
  · rintro ⟨i, hi⟩
    exact ⟨_, getD_mem set 0 i.val (by rw [h]; exact i.isLt), hi⟩
  · rintro ⟨p, hp, hb⟩
    obtain ⟨k, hk, e⟩ := mem_getD set 0 p hp
    exact ⟨⟨k, by omega⟩, by show (r.getD (set.getD k 0).toNat 0 == 1) = true; rw [e]; exact hb⟩

theorem impl_any (b : Nat) (rp : Option Addr) (r : List Int) (rq : Nat) (a' : Option Addr) (set : List Int) (c' : Nat) (w : World) (hc : w.cell? ⟨b, 0, none⟩ = some (.slice rp r.length rq)) (hb : b < w.heap.size) (hr : ints.Reads .i64 w rp r) (hq : ints.Reads .i64 w a' set) (hs : ∀ k, k < set.length → 0 ≤ set.getD k 0 ∧ set.getD k 0 < (r.length : Int)) (hn : r.length ≤ 1048576) (hk : set.length ≤ 1048576) :
    Calls Try.prog 104 #[.slice a' set.length c', .func (.func 105) #[] #[.pointer (some ⟨b, 0, none⟩)]] w fun e w' => e = .returned (.bool (hasOne r set)) ∧ ∃ q, w' = w.drewN q := by
  by_cases h0 : set.length = 0
  · obtain rfl : set = [] := List.length_eq_zero_iff.1 h0
    refine (Try.slices_ContainsFunc_empty_f104 (α := Int) _ _ _ _).mono ?_
    rintro e w' ⟨rfl, rfl⟩
    exact ⟨rfl, 0, rfl⟩
  rcases hq with rfl | ⟨b', off, rfl, hb', hrd⟩
  · simp at h0
  obtain ⟨m, hmm⟩ : ∃ m, set.length = m + 1 := ⟨set.length - 1, by omega⟩
  have hfl : (List.finRange (m + 1)).length = m + 1 := by simp
  have hcall := Try.slices_ContainsFunc_f104 (α := Fin (m + 1)) (fun i => Value.int .i64 (set.getD i.val 0)) (fun i => r.getD (set.getD i.val 0).toNat 0 == 1) 105 #[.pointer (some ⟨b, 0, none⟩)] (enters_of Try.func105 (by kernel_rfl) rfl) b' off set.length c' (List.finRange (m + 1)) w
    (fun W i hB => one_at b rp r rq w hc hb hr _ (hs i.val (by rw [hmm]; exact i.isLt)).1 (hs i.val (by rw [hmm]; exact i.isLt)).2 hn W hB)
    (by rw [hfl, hmm]; exact Nat.le_refl _) (by omega)
    (fun j hj => by
      have hj' : j < m + 1 := by rw [hfl] at hj; exact hj
      have e : (List.finRange (m + 1))[j]! = ⟨j, hj'⟩ := by
        rw [getElem!_pos _ j hj]; simp
      rw [e]
      exact hrd j (by omega))
  refine hcall.mono ?_
  rintro e w' ⟨rfl, q, rfl⟩
  refine ⟨?_, _, rfl⟩
  rw [List.take_of_length_le (by rw [hfl, hmm]; exact Nat.le_refl _), any_set r set (m + 1) hmm]
set_option maxRecDepth 100000 in
set_option maxHeartbeats 4000000 in
theorem impl_no (n : Int) (a : Option Addr) (rows : List (List Int)) (c : Nat) (a' : Option Addr) (set : List Int) (c' : Nat) (w : World) (hr : grid.Reads w a rows) (hq : ints.Reads .i64 w a' set) (hn : rows.length ≤ 1048576) (hm : ∀ r ∈ rows, r.length ≤ 1048576) (hk : set.length ≤ 1048576) (h : Hid (orB n rows set = false)) :
    Calls Try.prog 39 #[.int .i64 n, .slice a rows.length c, .slice a' set.length c'] w (RetIB [] false w) := by
  have Hhr := Lib.hid hr
  have Hhq := Lib.hid hq
  have HM := Lib.hid hm
  clear hr hq hm
  cases h1 : allB n rows
  · have H1 := Lib.hid h1
    clear h h1
    go_enter Try.func39, Try.ntmps39
    go_wp2_with fail
    refine (impl_rows n a rows c _ Hhr.out hn HM.out false H1).mono ?_
    rintro e w1 ⟨rfl, hb⟩
    have HB := Lib.hid hb
    clear hb
    go_wp2_with fail
    go_ret2
    exact ret_empty HB.out
  · have h2 : risesB n set = false := by have := h.out; simpa [orB, h1] using this
    have H1 := Lib.hid h1
    have H2 := Lib.hid h2
    clear h h1 h2
    go_enter Try.func39, Try.ntmps39
    go_wp2_with fail
    refine (impl_rows n a rows c _ Hhr.out hn HM.out true H1).mono ?_
    rintro e w1 ⟨rfl, hb⟩
    have HB := Lib.hid hb
    clear hb
    go_wp2_with fail
    refine (impl_places a' set c' n _ (Hhq.out.below HB.out) hk false H2).mono ?_
    rintro e w' ⟨rfl, rfl⟩
    go_wp2_with fail
    go_ret2
    exact ret_empty HB.out

/-- The first k answers, then zeros. -/
def filled (rows : List (List Int)) (set : List Int) (m k : Nat) : List Value := (ors rows set k).map (Value.int .i64) ++ List.replicate (m - k) (.int .i64 0)
theorem filled_zero (rows : List (List Int)) (set : List Int) (m : Nat) : filled rows set m 0 = List.replicate m (.int .i64 0) := by simp [filled, ors]
theorem filled_all (rows : List (List Int)) (set : List Int) (m : Nat) : filled rows set m m = (ors rows set m).map (Value.int .i64) := by simp [filled]
theorem filled_one {rows : List (List Int)} {set : List Int} {m k : Nat} (h : k < m) (h1 : orOf (rows.getD k []) set = 1) : (filled rows set m k).set k (.int .i64 1) = filled rows set m (k + 1) := by
  unfold filled
  rw [List.set_append, if_neg (by simp [ors_length]), show m - k = (m - (k + 1)) + 1 by omega, List.replicate_succ, List.length_map, ors_length, Nat.sub_self, List.set_cons_zero, ors_succ, List.map_append, List.append_assoc, h1]
  rfl
theorem filled_nil {rows : List (List Int)} {set : List Int} {m k : Nat} (h : k < m) (h1 : orOf (rows.getD k []) set = 0) : filled rows set m k = filled rows set m (k + 1) := by
  unfold filled
  rw [show m - k = (m - (k + 1)) + 1 by omega, List.replicate_succ, ors_succ, List.map_append, List.append_assoc, h1]
  rfl
theorem filled_at (rows : List (List Int)) (set : List Int) (m k : Nat) (h : k < m) : (filled rows set m k)[k]? = some (.int .i64 0) := by
  unfold filled
  rw [List.getElem?_append_right (by simp [ors_length]), List.getElem?_replicate, if_pos (by simp [ors_length]; omega)]

set_option maxRecDepth 100000 in
set_option maxHeartbeats 4000000 in
theorem impl_yes (n : Int) (a : Option Addr) (rows : List (List Int)) (c : Nat) (a' : Option Addr) (set : List Int) (c' : Nat) (w : World) (hr : grid.Reads w a rows) (hq : ints.Reads .i64 w a' set) (hn : rows.length ≤ 1048576) (hm : ∀ r ∈ rows, r.length ≤ 1048576) (hk : set.length ≤ 1048576) (h : Hid (orB n rows set = true)) :
    Calls Try.prog 39 #[.int .i64 n, .slice a rows.length c, .slice a' set.length c'] w (RetIB (ors rows set rows.length) true w) := by
  obtain ⟨i0, hi, hz0, hz1, hz2⟩ := info_parts infoInt
  have HF := Lib.hid (Fit.of h.out)
  obtain ⟨h1, h2⟩ := (orB_iff _ _ _).1 h.out
  have f1 := HF.out.pos
  have f2 := HF.out.le
  have f3 := HF.out.many
  have H1 := Lib.hid h1
  have H2 := Lib.hid h2
  have Hhr := Lib.hid hr
  have Hhq := Lib.hid hq
  have HM := Lib.hid hm
  clear hr hq hm h h1 h2
  go_enter Try.func39, Try.ntmps39
  go_wp2_with fail
  refine (impl_rows n a rows c _ Hhr.out hn HM.out true H1).mono ?_
  rintro e w1 ⟨rfl, hb⟩
  have HB := Lib.hid hb
  clear hb
  go_wp2_with fail
  refine (impl_places a' set c' n _ (Hhq.out.below HB.out) hk true H2).mono ?_
  rintro e w' ⟨rfl, rfl⟩
  go_wp2_with (refine wpList_make_full _ rfl _ _ 25 rfl w1.heap.size 3 i0 (.int .i64 0) 1 Try.underlying25 hi hz0 hz1 .i64 .i64 _ _ rows.length rfl rfl rfl rfl (by rw [hz2]; omega) (by unfold maxLen; omega) (Nat.le_refl _) ?_; intro w2 hown1 hgrow1; refine Hid.out ?_)
  refine Lib.hid ?_
  have hb1 : Below w1.heap.size w1 w2 := (Below.refl _ _).grown hgrow1 (Nat.le_refl _) (by simp)
  rw [show (Value.int .i64 0).cells = #[Value.int .i64 0] from rfl, Nat.mul_one, toList_madeCells_one, ← filled_zero rows set] at hown1
  have hs1 := HB.out.size
  clear hgrow1
  go_wp2_with fail
  go_loopw [27] (fun i wr => ∃ k : Nat, k ≤ rows.length ∧ i = .int .i64 k ∧ wr.ownsRow w1.heap.size 3 1 (.slice (some ⟨w1.heap.size, 0, none⟩) rows.length rows.length) rows.length (filled rows set rows.length k) ∧ Below w1.heap.size w1 wr) (fun i _ => rows.length - (intOf i).toNat)
  case atStart => exact ⟨0, Nat.zero_le _, rfl, hown1, hb1⟩
  case round =>
    obtain ⟨i, hi', rfl, hown, hbel⟩ := hrel
    have HBl := Lib.hid hbel
    have hsz := hbel.size
    clear hown1 hb1
    by_cases hlt : i < rows.length
    · obtain ⟨bl, off, rp, rq, rfl, hbl, hc, hpq, hrow⟩ := (Hhr.out.below HB.out).at hlt
      replace hc := cell_below hbel hc (by omega)
      have hrl := HF.out.len i hlt
      have hml := HM.out _ (getD_mem rows [] i hlt)
      have hgl := (hown.lt w1.heap.size rfl).2
      have HC := Lib.hid (show ∀ W : World, Below wr.heap.size wr W → W.cell? ⟨wr.heap.size, 0, none⟩ = some (.slice rp (rows.getD i []).length rq) → wr.heap.size < W.heap.size → Calls Try.prog 104 #[.slice a' set.length c', .func (.func 105) #[] #[.pointer (some ⟨wr.heap.size, 0, none⟩)]] W fun e w' => e = .returned (.bool (hasOne (rows.getD i []) set)) ∧ Below wr.heap.size wr w' from fun W hB hcc hlw => by
        refine (impl_any wr.heap.size rp _ rq a' set c' W hcc hlw ((hrow.below HBl.out).below hB) ((Hhq.out.below (HB.out.trans (HBl.out.mono hs1))).below hB) (fun k hk' => by have := HF.out.set k hk'; omega) hml hk).mono ?_
        rintro e w' ⟨rfl, q, rfl⟩
        exact ⟨rfl, ints.below_drewN hB q⟩)
      have HO := Lib.hid hown
      have HOr := Lib.hid (or_has (set := set) (HF.out.bits i hlt))
      have i1 : (0 : Int) ≤ (i : Int) := by omega
      have i2 : (i : Int) < (rows.length : Int) := by omega
      clear hown hbel hrow hpq hrl hml
      cases hx : hasOne (rows.getD i []) set
      · have HN := Lib.hid (filled_nil (rows := rows) (set := set) hlt (by rw [HOr.out, hx]; rfl))
        rw [hx] at HC
        clear hx HOr
        generalize rows.getD i [] = r at *
        go_wp2_with fail
        refine Calls.mono (HC.out _ ?_ ?_ ?_) ?_
        · exact below_alloc _ _
        · simp
        · simp
        rintro e w5 ⟨rfl, hb5⟩
        have HB5 := Lib.hid (HBl.out.trans (hb5.mono hsz))
        have HO5 := Lib.hid (ownsRow_block HO.out (fun g hg => hb5.block g (HO.out.lt g hg).2))
        clear hb5
        go_wp2_with fail
        go_roundw
        case rel => exact ⟨i + 1, by omega, by go_num, by rw [← HN.out]; exact HO5.out, HB5.out⟩
        case measure => simp [intOf]; omega
      · have HN := Lib.hid (filled_one (rows := rows) (set := set) hlt (by rw [HOr.out, hx]; rfl))
        have HST := Lib.hid (show ∀ W : World, W.ownsRow w1.heap.size 3 1 (.slice (some ⟨w1.heap.size, 0, none⟩) rows.length rows.length) rows.length (filled rows set rows.length i) → (W.setCell ⟨w1.heap.size, i, none⟩ (.int .i64 1)).ownsRow w1.heap.size 3 1 (.slice (some ⟨w1.heap.size, 0, none⟩) rows.length rows.length) rows.length (filled rows set rows.length (i + 1)) from fun W ho => by
          have := (ho.stored i (.int .i64 1)).1
          rw [HN.out] at this
          exact this)
        have HCL := Lib.hid (show ∀ W : World, W.ownsRow w1.heap.size 3 1 (.slice (some ⟨w1.heap.size, 0, none⟩) rows.length rows.length) rows.length (filled rows set rows.length i) → W.cell? ⟨w1.heap.size, i, none⟩ = some (.int .i64 0) from fun W ho => by rw [ho.cellAt i (by omega), filled_at rows set _ i hlt])
        rw [hx] at HC
        clear hx HOr HN
        generalize rows.getD i [] = r at *
        go_wp2_with fail
        refine Calls.mono (HC.out _ ?_ ?_ ?_) ?_
        · exact below_alloc _ _
        · simp
        · simp
        rintro e w5 ⟨rfl, hb5⟩
        have HB5 := Lib.hid (HBl.out.trans (hb5.mono hsz))
        have ho5 := ownsRow_block HO.out (fun g hg => hb5.block g (HO.out.lt g hg).2)
        have hcell := HCL.out _ ho5
        have hfro := ho5.frozenAt i
        have HS5 := Lib.hid (HST.out _ ho5)
        clear hb5 ho5
        go_wp2_with fail
        go_roundw
        case rel => exact ⟨i + 1, by omega, by go_num, HS5.out, HB5.out.setCell (Nat.le_refl _) _⟩
        case measure => simp [intOf]; omega
    · obtain rfl : i = rows.length := by omega
      rw [filled_all] at hown
      have HO := Lib.hid hown
      clear hown hbel
      go_wp2_with fail
      go_ret2
      exact ⟨_, rfl, (OwnI.of (by rw [ors_length]; exact HO.out)).mono hs1 (Nat.le_refl _), HB.out.trans (HBl.out.mono hs1)⟩
end Go.Proofs.Ytfooajnjkkpkiaa.orw
