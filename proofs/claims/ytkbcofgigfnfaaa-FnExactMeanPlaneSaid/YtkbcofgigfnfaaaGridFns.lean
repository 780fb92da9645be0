/- The walks of the laws' own helpers on lists of lists of integers: szIntSS, toIntSS, eqIntSS, markIntSS, heldIntSS. -/
import Derived.Test.YtkbcofgigfnfaaaIntFns
import Derived.Test.YtkbcofgigfnfaaaOwnG
import Derived.Deep.RegionHeld3
namespace Go.Proofs.Ytkbcofgigfnfaaa.gridfns
open Go.RowKit own
set_option linter.unusedVariables false

set_option maxHeartbeats 400000 in
theorem sz_yes (a : Option Addr) (rows : List (List Int)) (c : Nat) (left : Int) (w : World) (hr : grid.Reads w a rows)
    (h0 : (rows.length : Int) + (grid.tot rows : Int) ≤ left) (h1 : left ≤ 1048576) :
    Calls Try.prog 55 #[.slice a rows.length c, .int .i64 left] w fun e w' => e = .returned (.int .i64 (left - rows.length - grid.tot rows)) ∧ w = w' := by
  go_enter Try.func55, Try.ntmps55
  go_wp2
  go_loop [1, 5] (fun l i => ∃ k : Nat, k ≤ rows.length ∧ i = .int .i64 k ∧ l = .int .i64 (left - rows.length - grid.tot (rows.take k))) (fun _ i => rows.length - (intOf i).toNat)
  case atStart => exact ⟨0, Nat.zero_le _, rfl, by simp [grid.tot]⟩
  case round =>
    obtain ⟨k, hk, rfl, rfl⟩ := hrel
    by_cases hlt : k < rows.length
    · obtain ⟨b, off, p, c', rfl, hb, hc, _, _⟩ := hr.at hlt
      have HS := Lib.hid (grid.tot_take_succ rows k hlt)
      have hle := grid.tot_take_le rows (k + 1)
      rw [HS.out] at hle
      generalize hx : grid.tot (rows.take k) = x at *
      generalize hs : rows.getD k [] = s at *
      clear hx hs
      go_wp2_with fail
      refine (intfns.sz_yes _ _ _ _ _ (by omega) (by omega)).mono ?_
      rintro e w' ⟨rfl, rfl⟩
      go_wp2_with fail
      go_round
      case rel => exact ⟨k + 1, by omega, by go_num, by rw [HS.out]; go_num⟩
      case measure => simp [intOf]; omega
    · have : k = rows.length := by omega
      subst this
      rw [grid.tot_all]
      go_wp2
      go_ret
      exact ⟨rfl, rfl⟩

set_option maxHeartbeats 400000 in
theorem sz_no (a : Option Addr) (rows : List (List Int)) (c : Nat) (left : Int) (w : World) (hr : grid.Reads w a rows) (hl : rows.length ≤ 9223372036854775807) (hs : ∀ s ∈ rows, s.length ≤ 9223372036854775807)
    (h0 : left < (rows.length : Int) + (grid.tot rows : Int)) (h1 : left ≤ 1048576) (h2 : 0 ≤ left) :
    Calls Try.prog 55 #[.slice a rows.length c, .int .i64 left] w fun e w' => e = .returned (.int .i64 (-1)) ∧ w = w' := by
  by_cases hn : left < (rows.length : Int)
  · go_enter Try.func55, Try.ntmps55
    go_wp2_with fail
    go_ret
    exact ⟨rfl, rfl⟩
  go_enter Try.func55, Try.ntmps55
  go_wp2
  go_loop [1, 5] (fun l i => ∃ k : Nat, k ≤ rows.length ∧ i = .int .i64 k ∧ l = .int .i64 (left - rows.length - grid.tot (rows.take k)) ∧ (grid.tot (rows.take k) : Int) ≤ left - rows.length) (fun _ i => rows.length - (intOf i).toNat)
  case atStart => exact ⟨0, Nat.zero_le _, rfl, by simp [grid.tot], by simp [grid.tot]; omega⟩
  case round =>
    obtain ⟨k, hk, rfl, rfl, hx0⟩ := hrel
    by_cases hlt : k < rows.length
    · obtain ⟨b, off, p, c', rfl, hb, hc, _, _⟩ := hr.at hlt
      have HS := Lib.hid (grid.tot_take_succ rows k hlt)
      have hsz : (rows.getD k []).length ≤ 9223372036854775807 := hs _ (by rw [List.getD_eq_getElem?_getD, List.getElem?_eq_getElem hlt]; simp)
      generalize hx : grid.tot (rows.take k) = x at *
      generalize hs' : rows.getD k [] = s at *
      clear hx hs' hs
      by_cases hlong : left - rows.length - (x : Int) - (s.length : Int) < 0
      · go_wp2_with fail
        refine (intfns.sz_no _ _ _ _ _ (by omega) (by omega) (by omega) hsz).mono ?_
        rintro e w' ⟨rfl, rfl⟩
        go_wp2_with fail
        go_ret
        exact ⟨rfl, rfl⟩
      · go_wp2_with fail
        refine (intfns.sz_yes _ _ _ _ _ (by omega) (by omega)).mono ?_
        rintro e w' ⟨rfl, rfl⟩
        go_wp2_with fail
        go_round
        case rel => exact ⟨k + 1, by omega, by go_num, by rw [HS.out]; go_num, by rw [HS.out]; omega⟩
        case measure => simp [intOf]; omega
    · have : k = rows.length := by omega
      subst this
      rw [grid.tot_all] at hx0
      omega

theorem infoInts : (Try.prog.info? 23).map (fun i => (i.zero, i.size, i.bytes)) = some (some (.slice none 0 0), 1, 24) := by kernel_rfl

set_option maxRecDepth 100000 in
set_option maxHeartbeats 1000000 in
theorem to_any (a : Option Addr) (rows : List (List Int)) (c : Nat) (w : World) (hr : grid.Reads w a rows) (hn : (rows.length : Int) + (grid.tot rows : Int) ≤ 1048576) :
    Calls Try.prog 62 #[.slice a rows.length c] w (MadeG rows w) := by
  obtain ⟨i0, hi, hz0, hz1, hz2⟩ := info_parts infoInts
  go_enter Try.func62, Try.ntmps62
  go_wp2_with (refine wpList_make_full _ rfl _ _ 22 rfl w.heap.size 23 i0 (.slice none 0 0) 1 Try.underlying22 hi hz0 hz1 .i64 .i64 _ _ rows.length rfl rfl rfl rfl (by rw [hz2]; omega) (by unfold maxLen; omega) (Nat.le_refl _) ?_; intro w1 hown1 hgrow1; refine Hid.out ?_)
  refine Lib.hid ?_
  have hb1 : Below w.heap.size w w1 := (Below.refl _ _).grown hgrow1 (Nat.le_refl _) (by simp)
  rw [show (Value.slice none 0 0).cells = #[Value.slice none 0 0] from rfl, Nat.mul_one, toList_madeCells_one] at hown1
  have hgg := OwnPart.start hown1
  go_wp2
  go_loopw [4] (fun i wr => ∃ k : Nat, k ≤ rows.length ∧ i = .int .i64 k ∧ OwnPart w.heap.size w.heap.size wr rows k ∧ Below w.heap.size w wr) (fun i _ => rows.length - (intOf i).toNat)
  case atStart => exact ⟨0, Nat.zero_le _, rfl, hgg, hb1⟩
  case round =>
    obtain ⟨k, hk, rfl, hown, hbel⟩ := hrel
    clear hown1 hgrow1 hb1 hgg
    by_cases hlt : k < rows.length
    · obtain ⟨b, off, p, c', rfl, hb, hc, _, hrow⟩ := (hr.below hbel).at hlt
      have hle := grid.getD_le_tot rows k
      have HO := Lib.hid hown
      have HB := Lib.hid hbel
      have hsz := hbel.size
      clear hown hbel
      generalize hs : rows.getD k [] = s at *
      have HS := Lib.hid hs
      clear hs
      go_wp2_with fail
      refine (intfns.to_any _ _ _ _ hrow (by omega)).mono ?_
      rintro e w2 ⟨v, rfl, hov, hb2⟩
      obtain ⟨p2, q2, hv2, _, _, _⟩ := hov.slice
      subst hv2
      obtain ⟨hcell, hfro, hst⟩ := HO.out.store hlt hb2 (by rw [HS.out]; exact hov)
      have HST := Lib.hid hst
      have HB2 := Lib.hid (HB.out.trans (hb2.mono hsz))
      clear hst hb2 hov
      go_wp2_with fail
      go_roundw
      case rel => exact ⟨k + 1, by omega, by go_num, HST.out, HB2.out.setCell (Nat.le_refl _) _⟩
      case measure => simp [intOf]; omega
    · have : k = rows.length := by omega
      subst this
      have HO := Lib.hid hown.done
      have HB := Lib.hid hbel
      clear hown hbel
      go_wp2
      go_ret
      exact ⟨_, rfl, HO.out, HB.out⟩

theorem below_of3 {b o b' o' : Nat} {x x' : Value} {w wr wa : World} (hB : Below w.heap.size w wr) (h : wa.cell? ⟨b, o, none⟩ = some x ∧ wa.cell? ⟨b', o', none⟩ = some x' ∧ Below wr.heap.size wr wa) : Below w.heap.size w wa := hB.trans (h.2.2.mono hB.size)

set_option maxHeartbeats 800000 in
theorem eq_same (a a' : Option Addr) (rows : List (List Int)) (c c' : Nat) (w : World) (hr : grid.Reads w a rows) (hr' : grid.Reads w a' rows) (hn : rows.length ≤ 9223372036854775807) (hm : ∀ s ∈ rows, s.length ≤ 9223372036854775807) :
    Calls Try.prog 66 #[.slice a rows.length c, .slice a' rows.length c'] w fun e w' => e = .returned (.bool true) ∧ Below w.heap.size w w' := by
  go_enter Try.func66, Try.ntmps66
  go_wp2
  go_loopw [5] (fun i wr => ∃ k : Nat, k ≤ rows.length ∧ i = .int .i64 k ∧ Below w.heap.size w wr) (fun i _ => rows.length - (intOf i).toNat)
  case atStart => exact ⟨0, Nat.zero_le _, rfl, Below.refl _ _⟩
  case round =>
    obtain ⟨k, hk, rfl, hbel⟩ := hrel
    by_cases hlt : k < rows.length
    · obtain ⟨b, off, p, q, rfl, hb, hc, _, hrow⟩ := (hr.below hbel).at hlt
      obtain ⟨b', off', p', q', rfl, hb', hc', _, hrow'⟩ := (hr'.below hbel).at hlt
      have hsz : (rows.getD k []).length ≤ 9223372036854775807 := hm _ (by rw [List.getD_eq_getElem?_getD, List.getElem?_eq_getElem hlt]; simp)
      have HB := Lib.hid hbel
      have hws := hbel.size
      clear hbel
      generalize hs : rows.getD k [] = s at *
      clear hs
      have HT := Lib.hid (show ∀ wa : World, (wa.cell? ⟨b, off + k, none⟩ = some (.slice p s.length q) ∧ wa.cell? ⟨b', off' + k, none⟩ = some (.slice p' s.length q') ∧ Below wr.heap.size wr wa) → Calls Try.prog 20 #[.slice p s.length q, .slice p' s.length q'] wa fun e w' => e = .returned (.bool true) ∧ (w'.cell? ⟨b, off + k, none⟩ = some (.slice p s.length q) ∧ w'.cell? ⟨b', off' + k, none⟩ = some (.slice p' s.length q') ∧ Below wr.heap.size wr w') from fun wa hS =>
        (intfns.eq_same _ _ _ _ _ wa (hrow.below hS.2.2) (hrow'.below hS.2.2) hsz).mono fun _ w' ⟨he, hbx⟩ => ⟨he, (hbx.cell (p := ⟨b, off + k, none⟩) (Nat.lt_of_lt_of_le hb hS.2.2.size)).trans hS.1, (hbx.cell (p := ⟨b', off' + k, none⟩) (Nat.lt_of_lt_of_le hb' hS.2.2.size)).trans hS.2.1, hS.2.2.trans (hbx.mono hS.2.2.size)⟩)
      go_wp2_with fail
      go_region_held3 (fun w' => w'.cell? ⟨b, off + k, none⟩ = some (.slice p s.length q) ∧ w'.cell? ⟨b', off' + k, none⟩ = some (.slice p' s.length q') ∧ Below wr.heap.size wr w')
        (first | assumption | exact ⟨hc, hc', Below.refl _ _⟩ | exact ⟨hc, hc', (Below.refl _ _).drew⟩)
        (first | (go_at_call 20; refine Calls.mono (HT.out _ ?_) ?_; assumption; rintro e w' ⟨rfl, hbx⟩))
      go_wp2_with fail
      go_roundw
      case rel =>
        refine ⟨k + 1, by omega, by go_num, ?_⟩
        refine below_of3 (b := b) (o := off + k) (b' := b') (o' := off' + k) (x := .slice p s.length q) (x' := .slice p' s.length q') HB.out ?_
        assumption
      case measure => simp [intOf]; omega
    · have HB := Lib.hid hbel
      clear hbel
      go_wp2
      go_ret
      exact ⟨rfl, HB.out⟩
/-- What marking a slice of slices of the call's own leaves. -/
def MarkedG (lo hi : Nat) (v : Value) (rows : List (List Int)) (cs : List Value) (K : Nat) (w : World) (e : Ending) (w' : World) : Prop :=
  e = .returned (.int .i64 (K + grid.tot rows : Nat)) ∧ OwnC lo hi w' v (markRows K rows) cs ∧ Stir (Blk cs rows.length) w w'

set_option maxHeartbeats 1000000 in
theorem mark_any (lo hi : Nat) (a : Option Addr) (c : Nat) (rows : List (List Int)) (cs : List Value) (K : Nat) (w : World) (h : OwnC lo hi w (.slice a rows.length c) rows cs) (h2 : K + grid.tot rows ≤ 4611686018427387904) (hn : rows.length ≤ 9223372036854775807) :
    Calls Try.prog 67 #[.slice a rows.length c, .int .i64 K] w (MarkedG lo hi (.slice a rows.length c) rows cs K w) := by
  obtain ⟨h1, hblk, h5⟩ := h
  have HB := Lib.hid hblk
  have H1 := Lib.hid h1
  have H5 := Lib.hid (show RowsOf lo hi w cs (markPart K rows 0) by rw [markPart_zero]; exact h5)
  clear hblk h1 h5
  go_enter Try.func67, Try.ntmps67
  go_wp2_with fail
  go_loopw [1, 5] (fun q i wr => ∃ k : Nat, k ≤ rows.length ∧ i = .int .i64 k ∧ q = .int .i64 (K + grid.tot (rows.take k) : Nat) ∧ wr.ownsRow lo 23 1 (.slice a rows.length c) rows.length cs ∧ RowsOf lo hi wr cs (markPart K rows k) ∧ Stir (Blk cs rows.length) w wr) (fun _ i _ => rows.length - (intOf i).toNat)
  case atStart => exact ⟨0, Nat.zero_le _, rfl, by simp [grid.tot], H1.out, H5.out, Stir.refl _ _⟩
  case round =>
    obtain ⟨k, hk, rfl, rfl, ho, hrow, hon⟩ := hrel
    by_cases hlt : k < rows.length
    · have hoi := hrow.2.1 k (by rw [markPart_length]; exact hlt)
      rw [markPart_getD _ _ _ _ hlt, if_neg (by omega)] at hoi
      obtain ⟨p, q, hv, hrd, hpc, hml⟩ := hoi.slice
      obtain ⟨b, off, hab, hb, hc⟩ : ∃ b off, a = some ⟨b, off, none⟩ ∧ b < wr.heap.size ∧ wr.cell? ⟨b, off + k, none⟩ = some (cs.getD k undef) := by
        rcases ho.2 with ⟨e, h0⟩ | ⟨g, cap, cur, e, hl, hh, hn', hm, hs, ht⟩
        · omega
        · cases e
          refine ⟨g, 0, rfl, (Array.getElem?_eq_some_iff.1 hh).1, ?_⟩
          have hx := ho.cells (g := g) rfl k (cs.getD k undef) (by rw [List.getD_eq_getElem?_getD, List.getElem?_eq_getElem (by have := hrow.1; rw [markPart_length] at this; omega)]; simp)
          rw [Go.WideShapes.add_plain] at hx
          simpa using hx
      subst hab
      have HT := Lib.hid (grid.tot_take_succ rows k hlt)
      have hle := grid.tot_take_le rows (k + 1)
      rw [HT.out] at hle
      have HO := Lib.hid ho
      have HR := Lib.hid hrow
      have HN := Lib.hid hon
      have HV := Lib.hid hv
      rw [hv] at hc hoi
      clear ho hrow hon hv hrd
      have HI := Lib.hid hoi
      clear hoi
      have HM := Lib.hid (show mk K rows k = intfns.marks (K + grid.tot (rows.take k)) (rows.getD k []).length from rfl)
      generalize hx : grid.tot (rows.take k) = x at *
      generalize hs : rows.getD k [] = s at *
      clear hs hx
      go_wp2_with fail
      refine (intfns.mark_any lo hi _ _ s (K + x) wr HI.out (by omega)).mono ?_
      rintro e w2 ⟨rfl, hoi2, hg2⟩
      have HI2 := Lib.hid hoi2
      have HG2 := Lib.hid hg2
      clear hoi2 hg2
      go_wp2_with fail
      go_roundw
      case rel =>
        have hI := HI.out
        have e1 : Stir (Blk cs rows.length) wr w2 := Stir.of_grown (HG2.out _ rfl) fun g hg => ⟨k, hlt, by rw [HV.out]; exact hg⟩
        refine ⟨k + 1, by omega, by go_num, by rw [HT.out]; go_num, ?_, ?_, HN.out.trans e1⟩
        · exact ownsRow_block HO.out fun g hg => (HG2.out _ rfl).block g (HO.out.lt g hg).2 fun e => ownsRow_ne hI.1 HO.out (by decide) e.symm hg
        · refine HR.out.mark hlt (by rw [HV.out, HM.out]; exact HI2.out) (by rw [HV.out]; exact HG2.out)
      case measure => simp [intOf]; omega
    · obtain rfl : k = rows.length := by omega
      have HF := Lib.hid (show OwnC lo hi wr (.slice a rows.length c) (markRows K rows) cs from ⟨by rw [markRows_length]; exact ho, HB.out, hrow⟩)
      have HN := Lib.hid hon
      clear ho hrow hon
      rw [grid.tot_all]
      go_wp2_with fail
      go_ret
      exact ⟨rfl, HF.out, HN.out⟩

end Go.Proofs.Ytkbcofgigfnfaaa.gridfns
