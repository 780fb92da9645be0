/- The walks of the laws' own helpers on lists of planes: szPlaneS, toPlaneS, eqPlaneS, markPlaneS, heldPlaneS. -/
import Derived.Test.YtkbcofgigfnfaabPlaneFns
import Derived.Test.YtkbcofgigfnfaabPlanesL
import Derived.Deep.RegionHeld3
namespace Go.Proofs.Ytkbcofgigfnfaab.planesfns
open Go.RowKit own
set_option linter.unusedVariables false
set_option linter.unusedSimpArgs false

/-- The weights' lengths together. -/
def totJ (ps : List (List Int × Int)) : Nat := grid.tot (ps.map Prod.fst)
theorem totJ_succ (ps : List (List Int × Int)) (k : Nat) (h : k < ps.length) : totJ (ps.take (k + 1)) = totJ (ps.take k) + (ps.getD k ([], 0)).1.length := by
  unfold totJ
  rw [List.map_take, List.map_take, grid.tot_take_succ _ _ (by rw [List.length_map]; exact h), wsJ_getD]
theorem totJ_take_le (ps : List (List Int × Int)) (k : Nat) : totJ (ps.take k) ≤ totJ ps := by
  unfold totJ
  rw [List.map_take]
  exact grid.tot_take_le _ _
theorem totJ_all (ps : List (List Int × Int)) : totJ (ps.take ps.length) = totJ ps := by rw [List.take_length]
theorem totJ_zero (ps : List (List Int × Int)) : totJ (ps.take 0) = 0 := rfl
theorem getD_le_totJ (ps : List (List Int × Int)) (k : Nat) : (ps.getD k ([], 0)).1.length ≤ totJ ps := by
  have := grid.getD_le_tot (ps.map Prod.fst) k
  rw [wsJ_getD] at this
  exact this

theorem len_le_totJ (ps : List (List Int × Int)) (x : List Int × Int) (h : x ∈ ps) : x.1.length ≤ totJ ps := grid.len_le_tot _ _ (List.mem_map_of_mem h)

set_option maxHeartbeats 1000000 in
theorem sz_yes (a : Option Addr) (ps : List (List Int × Int)) (c : Nat) (left : Int) (w : World) (hr : ReadsJ w a ps)
    (h0 : (ps.length : Int) + (totJ ps : Int) ≤ left) (h1 : left ≤ 1048576) :
    Calls Try.prog 161 #[.slice a ps.length c, .int .i64 left] w fun e w' => e = .returned (.int .i64 (left - ps.length - totJ ps)) ∧ Below w.heap.size w w' := by
  go_enter Try.func161, Try.ntmps161
  go_wp2
  go_loopw [1, 5] (fun l i wr => ∃ k : Nat, k ≤ ps.length ∧ i = .int .i64 k ∧ l = .int .i64 (left - ps.length - totJ (ps.take k)) ∧ Below w.heap.size w wr) (fun _ i _ => ps.length - (intOf i).toNat)
  case atStart => exact ⟨0, Nat.zero_le _, rfl, by simp [totJ, grid.tot], Below.refl _ _⟩
  case round =>
    obtain ⟨k, hk, rfl, rfl, hbel⟩ := hrel
    by_cases hlt : k < ps.length
    · obtain ⟨b, off, p, c', rfl, hb, hc, hc2, _, _⟩ := (hr.below hbel).at hlt
      have HS := Lib.hid (totJ_succ ps k hlt)
      have hle := totJ_take_le ps (k + 1)
      rw [HS.out] at hle
      have HB := Lib.hid hbel
      have hsz := hbel.size
      clear hbel
      generalize hx : totJ (ps.take k) = x at *
      generalize hs : (ps.getD k ([], 0)).1 = s at *
      generalize hs2 : (ps.getD k ([], 0)).2 = z at *
      clear hx hs hs2
      go_wp2_with fail
      refine (planefns.sz_yes _ _ _ _ _ _ (by omega) (by omega)).mono ?_
      rintro e w' ⟨rfl, hb2⟩
      have HB2 := Lib.hid (HB.out.trans (hb2.mono hsz))
      clear hb2
      go_wp2_with fail
      go_roundw
      case rel => exact ⟨k + 1, by omega, by go_num, by rw [HS.out]; go_num, HB2.out⟩
      case measure => simp [intOf]; omega
    · have : k = ps.length := by omega
      subst this
      rw [totJ_all]
      have HB := Lib.hid hbel
      clear hbel
      go_wp2
      go_ret
      exact ⟨rfl, HB.out⟩

set_option maxHeartbeats 1000000 in
theorem sz_no (a : Option Addr) (ps : List (List Int × Int)) (c : Nat) (left : Int) (w : World) (hr : ReadsJ w a ps) (hl : ps.length ≤ 9223372036854775807) (hs : ∀ x ∈ ps, x.1.length ≤ 9223372036854775807)
    (h0 : left < (ps.length : Int) + (totJ ps : Int)) (h1 : left ≤ 1048576) (h2 : 0 ≤ left) :
    Calls Try.prog 161 #[.slice a ps.length c, .int .i64 left] w fun e w' => e = .returned (.int .i64 (-1)) ∧ Below w.heap.size w w' := by
  by_cases hn : left < (ps.length : Int)
  · go_enter Try.func161, Try.ntmps161
    go_wp2_with fail
    go_ret
    exact ⟨rfl, Below.refl _ _⟩
  go_enter Try.func161, Try.ntmps161
  go_wp2
  go_loopw [1, 5] (fun l i wr => ∃ k : Nat, k ≤ ps.length ∧ i = .int .i64 k ∧ l = .int .i64 (left - ps.length - totJ (ps.take k)) ∧ (totJ (ps.take k) : Int) ≤ left - ps.length ∧ Below w.heap.size w wr) (fun _ i _ => ps.length - (intOf i).toNat)
  case atStart => exact ⟨0, Nat.zero_le _, rfl, by simp [totJ, grid.tot], by simp [totJ, grid.tot]; omega, Below.refl _ _⟩
  case round =>
    obtain ⟨k, hk, rfl, rfl, hx0, hbel⟩ := hrel
    by_cases hlt : k < ps.length
    · obtain ⟨b, off, p, c', rfl, hb, hc, hc2, _, _⟩ := (hr.below hbel).at hlt
      have HS := Lib.hid (totJ_succ ps k hlt)
      have hsz : (ps.getD k ([], 0)).1.length ≤ 9223372036854775807 := hs _ (by rw [List.getD_eq_getElem?_getD, List.getElem?_eq_getElem hlt]; simp)
      have HB := Lib.hid hbel
      have hwz := hbel.size
      clear hbel
      generalize hx : totJ (ps.take k) = x at *
      generalize hs' : (ps.getD k ([], 0)).1 = s at *
      generalize hs2 : (ps.getD k ([], 0)).2 = z at *
      clear hx hs' hs hs2
      by_cases hlong : left - ps.length - (x : Int) - (s.length : Int) < 0
      · go_wp2_with fail
        refine (planefns.sz_no _ _ _ _ _ _ (by omega) (by omega) (by omega) hsz).mono ?_
        rintro e w' ⟨rfl, hb2⟩
        have HB2 := Lib.hid (HB.out.trans (hb2.mono hwz))
        clear hb2
        go_wp2_with fail
        go_ret
        exact ⟨rfl, HB2.out⟩
      · go_wp2_with fail
        refine (planefns.sz_yes _ _ _ _ _ _ (by omega) (by omega)).mono ?_
        rintro e w' ⟨rfl, hb2⟩
        have HB2 := Lib.hid (HB.out.trans (hb2.mono hwz))
        clear hb2
        go_wp2_with fail
        go_roundw
        case rel => exact ⟨k + 1, by omega, by go_num, by rw [HS.out]; go_num, by rw [HS.out]; omega, HB2.out⟩
        case measure => simp [intOf]; omega
    · have : k = ps.length := by omega
      subst this
      rw [totJ_all] at hx0
      omega

/-- What a copy is. -/
def MadeJ (ps : List (List Int × Int)) (w : World) (e : Ending) (w' : World) : Prop :=
  ∃ v, e = .returned v ∧ OwnJ w.heap.size w'.heap.size w' v ps ∧ Below w.heap.size w w'

theorem infoPlane : (Try.prog.info? 56).map (fun i => (i.zero, i.size, i.bytes)) = some (some (.agg #[.slice none 0 0, .int .i64 0]), 2, 32) := by kernel_rfl
theorem mapJ (n : Nat) : (List.range (n * 2)).map (fun i => (#[Value.slice none 0 0, Value.int .i64 0])[i % 2]!) = zerosJ n := by
  induction n with
  | zero => rfl
  | succ n ih =>
    rw [show (n + 1) * 2 = n * 2 + 1 + 1 by omega, List.range_succ_eq_map, List.map_cons, List.map_map, List.range_succ_eq_map, List.map_cons, List.map_map]
    unfold zerosJ
    rw [← ih]
    refine congrArg (List.cons _) (congrArg (List.cons _) ?_)
    apply List.map_congr_left
    intro i _
    have e : (i + 1 + 1) % 2 = i % 2 := by omega
    simp [Function.comp, e]
theorem madeJ (n : Nat) : (madeCells (Value.agg #[.slice none 0 0, .int .i64 0]).cells (n * 2)).toList = zerosJ n := by
  rw [show (Value.agg #[.slice none 0 0, .int .i64 0]).cells = #[Value.slice none 0 0, Value.int .i64 0] from by kernel_rfl]
  unfold madeCells
  rw [Array.toList_map, Array.toList_range]
  exact mapJ n

set_option maxRecDepth 100000 in
set_option maxHeartbeats 2000000 in
theorem to_any (a : Option Addr) (ps : List (List Int × Int)) (c : Nat) (w : World) (hr : ReadsJ w a ps) (hn : (ps.length : Int) + (totJ ps : Int) ≤ 1048576) :
    Calls Try.prog 162 #[.slice a ps.length c] w (MadeJ ps w) := by
  obtain ⟨i0, hi, hz0, hz1, hz2⟩ := info_parts infoPlane
  go_enter Try.func162, Try.ntmps162
  go_wp2_with (refine wpList_make_full _ rfl _ _ 110 rfl w.heap.size 56 i0 (.agg #[.slice none 0 0, .int .i64 0]) 2 Try.underlying110 hi hz0 hz1 .i64 .i64 _ _ ps.length rfl rfl rfl rfl (by rw [hz2]; omega) (by unfold maxLen; omega) (Nat.le_refl _) ?_; intro w1 hown1 hgrow1; refine Hid.out ?_)
  refine Lib.hid ?_
  have hb1 : Below w.heap.size w w1 := (Below.refl _ _).grown hgrow1 (Nat.le_refl _) (by simp)
  rw [madeJ] at hown1
  have hgg := OwnPartJ.start hown1
  go_wp2
  go_loopw [4] (fun i wr => ∃ k : Nat, k ≤ ps.length ∧ i = .int .i64 k ∧ OwnPartJ w.heap.size w.heap.size wr ps k ∧ Below w.heap.size w wr) (fun i _ => ps.length - (intOf i).toNat)
  case atStart => exact ⟨0, Nat.zero_le _, rfl, hgg, hb1⟩
  case round =>
    obtain ⟨k, hk, rfl, hown, hbel⟩ := hrel
    clear hown1 hgrow1 hb1 hgg
    by_cases hlt : k < ps.length
    · obtain ⟨b, off, p, c', rfl, hb, hc, hc2, _, hrow⟩ := (hr.below hbel).at hlt
      have hle := getD_le_totJ ps k
      have HO := Lib.hid hown
      have HB := Lib.hid hbel
      have hsz := hbel.size
      clear hown hbel
      generalize hs : (ps.getD k ([], 0)).1 = s at *
      have HS := Lib.hid hs
      generalize hs2 : (ps.getD k ([], 0)).2 = z at *
      have HZ := Lib.hid hs2
      clear hs hs2
      go_wp2_with fail
      refine (planefns.to_any _ _ _ _ _ hrow (by omega)).mono ?_
      rintro e w2 ⟨v, rfl, hov, hb2⟩
      obtain ⟨p2, q2, hv2, _, _, _⟩ := hov.slice
      subst hv2
      obtain ⟨⟨hcell, hfro, hcell2, hfro2⟩, hst⟩ := HO.out.store hlt hb2 (by rw [HS.out]; exact hov)
      rw [HZ.out] at hst
      have HST := Lib.hid hst
      have HB2 := Lib.hid (HB.out.trans (hb2.mono hsz))
      clear hst hb2 hov
      go_wp2_with fail
      go_roundw
      case rel => exact ⟨k + 1, by omega, by go_num, HST.out, (HB2.out.setCell (Nat.le_refl _) _).setCell (Nat.le_refl _) _⟩
      case measure => simp [intOf]; omega
    · have : k = ps.length := by omega
      subst this
      have HO := Lib.hid hown.done
      have HB := Lib.hid hbel
      clear hown hbel
      go_wp2
      go_ret
      exact ⟨_, rfl, HO.out, HB.out⟩

set_option maxHeartbeats 2000000 in
theorem eq_same (a a' : Option Addr) (ps : List (List Int × Int)) (c c' : Nat) (w : World) (hr : ReadsJ w a ps) (hr' : ReadsJ w a' ps) (hn : ps.length ≤ 9223372036854775807) (hm : ∀ x ∈ ps, x.1.length ≤ 9223372036854775807) :
    Calls Try.prog 167 #[.slice a ps.length c, .slice a' ps.length c'] w fun e w' => e = .returned (.bool true) ∧ Below w.heap.size w w' := by
  go_enter Try.func167, Try.ntmps167
  go_wp2
  go_loopw [5] (fun i wr => ∃ k : Nat, k ≤ ps.length ∧ i = .int .i64 k ∧ Below w.heap.size w wr) (fun i _ => ps.length - (intOf i).toNat)
  case atStart => exact ⟨0, Nat.zero_le _, rfl, Below.refl _ _⟩
  case round =>
    obtain ⟨k, hk, rfl, hbel⟩ := hrel
    by_cases hlt : k < ps.length
    · obtain ⟨b, off, p, q, rfl, hb, hc, hd, _, hrow⟩ := (hr.below hbel).at hlt
      obtain ⟨b', off', p', q', rfl, hb', hc', hd', _, hrow'⟩ := (hr'.below hbel).at hlt
      have hsz : (ps.getD k ([], 0)).1.length ≤ 9223372036854775807 := hm _ (by rw [List.getD_eq_getElem?_getD, List.getElem?_eq_getElem hlt]; simp)
      have HB := Lib.hid hbel
      have hws := hbel.size
      clear hbel
      generalize hs : (ps.getD k ([], 0)).1 = s at *
      generalize hs2 : (ps.getD k ([], 0)).2 = z at *
      clear hs hs2
      have HT := Lib.hid (show ∀ wa : World, (wa.cell? ⟨b, off + k * 2, none⟩ = some (.slice p s.length q) ∧ wa.cell? ⟨b, off + k * 2 + 1, none⟩ = some (.int .i64 z) ∧ wa.cell? ⟨b', off' + k * 2, none⟩ = some (.slice p' s.length q') ∧ wa.cell? ⟨b', off' + k * 2 + 1, none⟩ = some (.int .i64 z) ∧ Below wr.heap.size wr wa) → Calls Try.prog 205 #[.agg #[.slice p s.length q, .int .i64 z], .agg #[.slice p' s.length q', .int .i64 z]] wa fun e w' => e = .returned (.bool true) ∧ (w'.cell? ⟨b, off + k * 2, none⟩ = some (.slice p s.length q) ∧ w'.cell? ⟨b, off + k * 2 + 1, none⟩ = some (.int .i64 z) ∧ w'.cell? ⟨b', off' + k * 2, none⟩ = some (.slice p' s.length q') ∧ w'.cell? ⟨b', off' + k * 2 + 1, none⟩ = some (.int .i64 z) ∧ Below wr.heap.size wr w') from fun wa hS =>
        (planefns.eq_same _ _ _ _ _ _ wa (hrow.below hS.2.2.2.2) (hrow'.below hS.2.2.2.2) hsz).mono fun _ w' ⟨he, hbx⟩ => ⟨he, cell_below hbx hS.1 (Nat.lt_of_lt_of_le hb hS.2.2.2.2.size), cell_below hbx hS.2.1 (Nat.lt_of_lt_of_le hb hS.2.2.2.2.size), cell_below hbx hS.2.2.1 (Nat.lt_of_lt_of_le hb' hS.2.2.2.2.size), cell_below hbx hS.2.2.2.1 (Nat.lt_of_lt_of_le hb' hS.2.2.2.2.size), hS.2.2.2.2.trans (hbx.mono hS.2.2.2.2.size)⟩)
      go_wp2_with fail
      go_region_held3 (fun w' => w'.cell? ⟨b, off + k * 2, none⟩ = some (.slice p s.length q) ∧ w'.cell? ⟨b, off + k * 2 + 1, none⟩ = some (.int .i64 z) ∧ w'.cell? ⟨b', off' + k * 2, none⟩ = some (.slice p' s.length q') ∧ w'.cell? ⟨b', off' + k * 2 + 1, none⟩ = some (.int .i64 z) ∧ Below wr.heap.size wr w')
        (first | assumption | exact ⟨hc, hd, hc', hd', Below.refl _ _⟩ | exact ⟨hc, hd, hc', hd', (Below.refl _ _).drew⟩)
        (first | (go_at_call 205; refine Calls.mono (HT.out _ ?_) ?_; assumption; rintro e w9 ⟨rfl, hbx⟩))
      have HB9 := Lib.hid (HB.out.trans (hbx.2.2.2.2.mono hws))
      clear hbx
      go_wp2_with fail
      go_roundw
      case rel => exact ⟨k + 1, by omega, by go_num, HB9.out⟩
      case measure => simp [intOf]; omega
    · have HB := Lib.hid hbel
      clear hbel
      go_wp2
      go_ret
      exact ⟨rfl, HB.out⟩

/-- The marks of planes, from a number on. -/
def mkJ (K : Nat) (ps : List (List Int × Int)) (i : Nat) : List Int × Int :=
  (intfns.marks (K + totJ (ps.take i) + i) (ps.getD i ([], 0)).1.length, ((K + totJ (ps.take i) + i + (ps.getD i ([], 0)).1.length : Nat) : Int))
def markPartJ (K : Nat) (ps : List (List Int × Int)) (k : Nat) : List (List Int × Int) := (List.range ps.length).map fun i => if i < k then mkJ K ps i else ps.getD i ([], 0)
def markJ (K : Nat) (ps : List (List Int × Int)) : List (List Int × Int) := markPartJ K ps ps.length
theorem markPartJ_length (K : Nat) (ps : List (List Int × Int)) (k : Nat) : (markPartJ K ps k).length = ps.length := by simp [markPartJ]
theorem markPartJ_getD (K : Nat) (ps : List (List Int × Int)) (k i : Nat) (h : i < ps.length) : (markPartJ K ps k).getD i ([], 0) = if i < k then mkJ K ps i else ps.getD i ([], 0) := by
  rw [List.getD_eq_getElem?_getD]; simp [markPartJ, h]
theorem markPartJ_zero (K : Nat) (ps : List (List Int × Int)) : markPartJ K ps 0 = ps := by
  apply List.ext_getElem?
  intro i
  by_cases h : i < ps.length
  · have := markPartJ_getD K ps 0 i h
    rw [List.getD_eq_getElem?_getD, List.getElem?_eq_getElem (by rw [markPartJ_length]; exact h)] at this
    rw [List.getElem?_eq_getElem (by rw [markPartJ_length]; exact h), List.getElem?_eq_getElem h]
    simp [List.getElem?_eq_getElem h] at this
    rw [this]
  · rw [List.getElem?_eq_none (by rw [markPartJ_length]; omega), List.getElem?_eq_none (by omega)]
theorem markJ_length (K : Nat) (ps : List (List Int × Int)) : (markJ K ps).length = ps.length := markPartJ_length _ _ _
theorem markJ_getD (K : Nat) (ps : List (List Int × Int)) (i : Nat) (h : i < ps.length) : (markJ K ps).getD i ([], 0) = mkJ K ps i := by
  unfold markJ; rw [markPartJ_getD _ _ _ _ h, if_pos h]
theorem flatJ_put (cs : List Value) (ps qs : List (List Int × Int)) (k : Nat) (h : cs.length = ps.length) (hl : qs.length = ps.length) (hk : k < ps.length) (hs : ∀ i, i < ps.length → i ≠ k → (qs.getD i ([], 0)).2 = (ps.getD i ([], 0)).2) :
    (flatJ cs ps).set (k * 2 + 1) (.int .i64 (qs.getD k ([], 0)).2) = flatJ cs qs := by
  have h1 := flatJ_length cs ps h
  have h2 := flatJ_length cs qs (by omega)
  apply List.ext_getElem?
  intro j
  rw [List.getElem?_set]
  obtain ⟨i, rfl | rfl⟩ : ∃ i, j = i * 2 ∨ j = i * 2 + 1 := ⟨j / 2, by omega⟩
  · rw [if_neg (by omega)]
    by_cases hi : i < ps.length
    · rw [(flatJ_at cs ps h i hi).1, (flatJ_at cs qs (by omega) i (by omega)).1]
    · rw [List.getElem?_eq_none (by omega), List.getElem?_eq_none (by omega)]
  · by_cases hi : i < ps.length
    · by_cases e : i = k
      · subst e
        rw [if_pos rfl, if_pos (by omega), (flatJ_at cs qs (by omega) i (by omega)).2]
      · rw [if_neg (by omega), (flatJ_at cs ps h i hi).2, (flatJ_at cs qs (by omega) i (by omega)).2, hs i hi e]
    · rw [if_neg (by omega), List.getElem?_eq_none (by omega), List.getElem?_eq_none (by omega)]
theorem RowsOf.put {lo hi k : Nat} {w w' : World} {cs : List Value} {rows rows' : List (List Int)} (h : RowsOf lo hi w cs rows) (hl : rows'.length = rows.length) (hk : k < rows.length)
    (hm : OwnI lo hi w' (cs.getD k undef) (rows'.getD k [])) (hs : ∀ i, i < rows.length → i ≠ k → rows'.getD i [] = rows.getD i [])
    (hg : ∀ g, g < w.heap.size → (∃ i, i < rows.length ∧ i ≠ k ∧ (cs.getD i undef).ownBlock = some g) → w'.heap[g]? = w.heap[g]?) : RowsOf lo hi w' cs rows' := by
  obtain ⟨h1, h2, h3⟩ := h
  refine ⟨by omega, fun i hi' => ?_, fun i j hij hj => h3 i j hij (by omega)⟩
  by_cases e : i = k
  · subst e; exact hm
  · rw [hs i (by omega) e]
    have := h2 i (by omega)
    exact this.block fun g hgi => hg g (this.lt hgi).2.2 ⟨i, by omega, e, hgi⟩

set_option maxHeartbeats 2000000 in
theorem mark_any (lo hi : Nat) (a : Option Addr) (c : Nat) (ps : List (List Int × Int)) (K : Nat) (w : World) (h : OwnJ lo hi w (.slice a ps.length c) ps) (h2 : K + totJ ps + ps.length ≤ 4611686018427387904) (hn : ps.length ≤ 9223372036854775807) :
    Calls Try.prog 168 #[.slice a ps.length c, .int .i64 K] w fun e w' => e = .returned (.int .i64 (K + totJ ps + ps.length : Nat)) ∧ OwnJ lo hi w' (.slice a ps.length c) (markJ K ps) ∧ Only lo hi w w' := by
  obtain ⟨cs, h1, hblk, h5⟩ := h
  have HBK := Lib.hid hblk
  have H1 := Lib.hid (show w.ownsRow lo 56 2 (.slice a ps.length c) ps.length (flatJ cs (markPartJ K ps 0)) by rw [markPartJ_zero]; exact h1)
  have H5 := Lib.hid (show RowsOf lo hi w cs ((markPartJ K ps 0).map Prod.fst) by rw [markPartJ_zero]; exact h5)
  have hcl : cs.length = ps.length := by have := h5.1; rw [List.length_map] at this; exact this
  clear hblk h1 h5
  have HCL := Lib.hid hcl
  clear hcl
  go_enter Try.func168, Try.ntmps168
  go_wp2_with fail
  go_loopw [1, 5] (fun q i wr => ∃ k : Nat, k ≤ ps.length ∧ i = .int .i64 k ∧ q = .int .i64 (K + totJ (ps.take k) + k : Nat) ∧ wr.ownsRow lo 56 2 (.slice a ps.length c) ps.length (flatJ cs (markPartJ K ps k)) ∧ RowsOf lo hi wr cs ((markPartJ K ps k).map Prod.fst) ∧ Only lo hi w wr) (fun _ i _ => ps.length - (intOf i).toNat)
  case atStart => exact ⟨0, Nat.zero_le _, rfl, by simp [totJ, grid.tot], H1.out, H5.out, Only.refl _ _ _⟩
  case round =>
    obtain ⟨k, hk, rfl, rfl, ho, hrow, hon⟩ := hrel
    by_cases hlt : k < ps.length
    · have hoi := hrow.2.1 k (by rw [List.length_map, markPartJ_length]; exact hlt)
      rw [wsJ_getD, markPartJ_getD _ _ _ _ hlt, if_neg (by omega)] at hoi
      obtain ⟨p, q, hv, hrd, hpc, hml⟩ := hoi.slice
      obtain ⟨g, rfl⟩ : ∃ g, a = some ⟨g, 0, none⟩ := by
        rcases ho.2 with ⟨e, h0⟩ | ⟨g, cap, cur, e, hl, hh, hn', hm, hs, ht⟩
        · omega
        · cases e; exact ⟨g, rfl⟩
      have hat := flatJ_at cs (markPartJ K ps k) (by rw [markPartJ_length]; exact HCL.out) k (by rw [markPartJ_length]; exact hlt)
      rw [markPartJ_getD _ _ _ _ hlt, if_neg (by omega), hv] at hat
      have hc : wr.cell? ⟨g, k * 2, none⟩ = some (.slice p (ps.getD k ([], 0)).1.length q) := by rw [ho.cellAt (k * 2) (by omega)]; exact hat.1
      have hd : wr.cell? ⟨g, k * 2 + 1, none⟩ = some (.int .i64 (ps.getD k ([], 0)).2) := by rw [ho.cellAt (k * 2 + 1) (by omega)]; exact hat.2
      have hgw := ho.lt g rfl
      have hgh := HBK.out g rfl
      clear hat hrd
      have HT := Lib.hid (totJ_succ ps k hlt)
      have hle := totJ_take_le ps (k + 1)
      rw [HT.out] at hle
      have HO := Lib.hid ho
      have HR := Lib.hid hrow
      have HN := Lib.hid hon
      have HV := Lib.hid hv
      rw [hv] at hoi
      clear ho hrow hon hv
      have HI := Lib.hid hoi
      clear hoi
      have HM := Lib.hid (show mkJ K ps k = (intfns.marks (K + totJ (ps.take k) + k) (ps.getD k ([], 0)).1.length, ((K + totJ (ps.take k) + k + (ps.getD k ([], 0)).1.length : Nat) : Int)) from rfl)
      generalize hx : totJ (ps.take k) = x at *
      generalize hs : (ps.getD k ([], 0)).1 = s at *
      generalize hs2 : (ps.getD k ([], 0)).2 = z at *
      clear hs hx hs2
      go_wp2_with fail
      refine (intfns.mark_any lo hi _ _ s (K + x + k) wr HI.out (by omega)).mono ?_
      rintro e w2 ⟨rfl, hoi2, hg2⟩
      have hIlt : ∀ gg, (Value.slice p s.length q).ownBlock = some gg → lo ≤ gg ∧ gg < hi ∧ gg < wr.heap.size := fun gg e => HI.out.lt e
      have hne : ∀ gg, (Value.slice p s.length q).ownBlock = some gg → gg ≠ g := fun gg e1 e2 => by
        subst e2
        exact ownsRow_ne HI.out.1 HO.out (by decide) e1 rfl
      have hgr := hg2 _ rfl
      have HG2 := Lib.hid hgr
      have ho2 := ownsRow_block (w' := w2) HO.out (fun g' hg' => by
        obtain rfl : g = g' := by simpa [Value.ownBlock] using hg'
        exact hgr.block g hgw.2 fun e => hne g e.symm rfl)
      have hc2 : w2.cell? ⟨g, k * 2 + 1, none⟩ = some (.int .i64 z) := (World.cell?_of_block (hgr.block g hgw.2 fun e => hne g e.symm rfl)).trans hd
      have hf2 := ho2.frozenAt (k * 2 + 1)
      have hst := (ho2.stored (k * 2 + 1) (.int .i64 ((K + x + k + s.length : Nat) : Int))).1
      have HST := Lib.hid hst
      have HI2 := Lib.hid hoi2
      have HNE := Lib.hid hne
      have HIL := Lib.hid hIlt
      have s2 := hgr.size
      clear hoi2 hg2 hgr ho2 hst hne hIlt
      go_wp2_with fail
      go_roundw
      case rel =>
        have e1 : Only lo hi wr w2 := Only.of_grown HG2.out fun g' hg' => ⟨(HIL.out g' hg').1, (HIL.out g' hg').2.1⟩
        refine ⟨k + 1, by omega, by go_num, by rw [HT.out]; go_num, ?_, ?_, ?_⟩
        · have := flatJ_put cs (markPartJ K ps k) (markPartJ K ps (k + 1)) k (by rw [markPartJ_length]; exact HCL.out) (by rw [markPartJ_length, markPartJ_length]) (by rw [markPartJ_length]; exact hlt) (fun i hi' hne => by
            rw [markPartJ_length] at hi'
            rw [markPartJ_getD _ _ _ _ hi', markPartJ_getD _ _ _ _ hi']
            simp only [show (i < k + 1) ↔ (i < k) from by omega])
          rw [markPartJ_getD _ _ _ _ hlt, if_pos (by omega), HM.out] at this
          rw [← this]
          exact HST.out
        · refine RowsOf.put (k := k) (rows := (markPartJ K ps k).map Prod.fst) (w := wr) HR.out (by simp [markPartJ_length]) (by simpa [markPartJ_length] using hlt) ?_ ?_ ?_
          · rw [wsJ_getD, markPartJ_getD _ _ _ _ hlt, if_pos (by omega), HM.out, HV.out]
            exact HI2.out.block fun g' e => Below.heap_setCell _ _ _ _ (HNE.out g' e)
          · intro i hi' hne
            rw [List.length_map, markPartJ_length] at hi'
            rw [wsJ_getD, wsJ_getD, markPartJ_getD _ _ _ _ hi', markPartJ_getD _ _ _ _ hi']
            simp only [show (i < k + 1) ↔ (i < k) from by omega]
          · rintro g' hg' ⟨i, hi', hne, he⟩
            have hri := HR.out.2.1 i hi'
            have hng : g' ≠ g := fun e2 => by subst e2; exact ownsRow_ne hri.1 HO.out (by decide) he rfl
            refine (Below.heap_setCell _ _ _ _ hng).trans (HG2.out.block g' hg' fun e2 => ?_)
            rw [List.length_map, markPartJ_length] at hi'
            rcases Nat.lt_or_gt_of_ne hne with hl | hl
            · exact HR.out.2.2 i k hl (by simpa [markPartJ_length] using hlt) g' he (by rw [HV.out]; exact e2.symm)
            · exact HR.out.2.2 k i hl (by simpa [markPartJ_length] using hi') g' (by rw [HV.out]; exact e2.symm) he
        · refine (HN.out.trans e1).trans ⟨rfl, rfl, rfl, by rw [size_set]; exact Nat.le_refl _, fun k' hk' ho' => Below.heap_setCell _ _ _ _ (fun e2 => ?_)⟩
          have e3 : k' = g := e2
          omega
      case measure => simp [intOf]; omega
    · obtain rfl : k = ps.length := by omega
      have HF := Lib.hid (show OwnJ lo hi wr (.slice a ps.length c) (markJ K ps) from ⟨cs, by rw [markJ_length]; exact ho, HBK.out, hrow⟩)
      have HN := Lib.hid hon
      clear ho hrow hon
      rw [totJ_all]
      go_wp2_with fail
      go_ret
      exact ⟨rfl, HF.out, HN.out⟩
set_option maxHeartbeats 2000000 in
theorem held_any (a : Option Addr) (c : Nat) (ps : List (List Int × Int)) (K : Nat) (w : World) (hr : ReadsJ w a (markJ K ps)) (h2 : K + totJ ps + ps.length ≤ 4611686018427387904) (hn : ps.length ≤ 9223372036854775807) :
    Calls Try.prog 169 #[.slice a ps.length c, .int .i64 K] w fun e w' => e = .returned (.int .i64 (K + totJ ps + ps.length : Nat)) ∧ Below w.heap.size w w' := by
  go_enter Try.func169, Try.ntmps169
  go_wp2_with fail
  go_loopw [1, 5] (fun q i wr => ∃ k : Nat, k ≤ ps.length ∧ i = .int .i64 k ∧ q = .int .i64 (K + totJ (ps.take k) + k : Nat) ∧ Below w.heap.size w wr) (fun _ i _ => ps.length - (intOf i).toNat)
  case atStart => exact ⟨0, Nat.zero_le _, rfl, by simp [totJ, grid.tot], Below.refl _ _⟩
  case round =>
    obtain ⟨k, hk, rfl, rfl, hb⟩ := hrel
    have HB := Lib.hid hb
    have hws := hb.size
    by_cases hlt : k < ps.length
    · obtain ⟨g, off, p, q, rfl, hg, hcell, hcell2, hq, hrow⟩ := (hr.below hb).at (k := k) (by rw [markJ_length]; exact hlt)
      rw [markJ_getD K ps k hlt] at hcell hrow hcell2
      unfold mkJ at hcell hrow hcell2
      dsimp only at hcell hrow hcell2
      rw [intfns.marks_length] at hcell
      clear hb hq
      have HT := Lib.hid (totJ_succ ps k hlt)
      have hle := totJ_take_le ps (k + 1)
      rw [HT.out] at hle
      generalize hx : totJ (ps.take k) = x at *
      generalize hs : (ps.getD k ([], 0)).1 = s at *
      clear hs hx
      go_wp2_with fail
      refine (intfns.held_any _ _ s.length (K + x + k) wr hrow (by omega)).mono ?_
      rintro e w2 ⟨rfl, hb2⟩
      have hcell3 := cell_below hb2 hcell2 hg
      have HB2 := Lib.hid (HB.out.trans (hb2.mono hws))
      clear hb2 hrow hcell2
      go_wp2_with fail
      go_roundw
      case rel => exact ⟨k + 1, by omega, by go_num, by rw [HT.out]; go_num, HB2.out⟩
      case measure => simp [intOf]; omega
    · obtain rfl : k = ps.length := by omega
      clear hb
      rw [totJ_all]
      go_wp2_with fail
      go_ret
      exact ⟨rfl, HB.out⟩
end Go.Proofs.Ytkbcofgigfnfaab.planesfns
