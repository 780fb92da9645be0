/- Several texts in one. -/
import Derived.Deep.RegionHeld3
import Derived.Test.YtldimbipjjjghaaLpH6
import Derived.Test.YtldimbipjjjghaaLpH7
namespace Go.Proofs.Ytldimbipjjjghaa.fnExactSizeOfw
open Go.RowKit own
set_option linter.unusedVariables false
set_option linter.unusedSimpArgs false

set_option maxHeartbeats 1000000 in
theorem exit_len1 (n0 : Int) (a1 : Option Addr) (zs1 : List Int) (c1 : Nat) (w : World) (hr1 : ints.Reads .i64 w a1 zs1)  (hl1 : zs1.length ≤ 9223372036854775807)  (h1 : 1048576 < zs1.length) : Calls Try.prog 10 #[.int .i64 n0, .slice a1 zs1.length c1] w fun e w' => e = .returned (.bool true) ∧ Below w.heap.size w w' := by
  have HR1 := Lib.hid hr1
  clear hr1
  go_enter Try.func10, Try.ntmps10
  go_wp2_with fail
  go_ret
  exact ⟨rfl, by first | exact Below.refl _ _ | exact (Below.refl _ _).alloc (Nat.le_refl _) _ | exact ((Below.refl _ _).alloc (Nat.le_refl _) _).alloc (by simp) _⟩

theorem law_big (n0 : Int) (a1 : Option Addr) (zs1 : List Int) (c1 : Nat) (w : World) (hr1 : ints.Reads .i64 w a1 zs1)  (hl1 : zs1.length ≤ 9223372036854775807) (hx : ¬ (zs1.length ≤ 1048576)) : Calls Try.prog 10 #[.int .i64 n0, .slice a1 zs1.length c1] w fun e w' => e = .returned (.bool true) ∧ Below w.heap.size w w' := by
  by_cases g1 : 1048576 < zs1.length
  · exact exit_len1 n0 a1 zs1 c1 w hr1 hl1  g1
  · exact absurd (by omega) hx

set_option maxRecDepth 100000 in
set_option maxHeartbeats 4000000 in
theorem law_small (n0 : Int) (a1 : Option Addr) (zs1 : List Int) (c1 : Nat) (r0 : Int) (ok : Bool) (w : World) (hr1 : ints.Reads .i64 w a1 zs1) (h0 : zs1.length ≤ 1048576) 
    (HSpec : Hid (∀ (a1 : Option Addr) (c1 : Nat) (w : World), ints.Reads .i64 w a1 zs1 → Calls Try.prog 43 #[.int .i64 n0, .slice a1 zs1.length c1] w (RetNB r0 ok w)))
    (HImpl : Hid (∀ (a1 : Option Addr) (c1 : Nat) (w : World), ints.Reads .i64 w a1 zs1 → Calls Try.prog 44 #[.int .i64 n0, .slice a1 zs1.length c1] w (RetNB r0 ok w))) :
    Calls Try.prog 10 #[.int .i64 n0, .slice a1 zs1.length c1] w fun e w' => e = .returned (.bool true) ∧ Below w.heap.size w w' := by
  have HR1 := Lib.hid hr1
  clear hr1
  go_enter Try.func10, Try.ntmps10
  go_wp2_with fail
  have HB0 := Lib.hid (Below.refl w.heap.size w)
  have s0 : w.heap.size ≤ w.heap.size := Nat.le_refl _
  refine (intfns.to_any a1 zs1 c1 _ (HR1.out.below HB0.out) (by omega)).mono ?_
  rintro e w1 ⟨v, rfl, ho, hb⟩
  obtain ⟨s1a, s1c, rfl, _, _, _⟩ := ho.slice
  have s1 : w.heap.size ≤ w1.heap.size := hb.size
  have HB1 := Lib.hid (HB0.out.trans (hb.mono (by omega)))
  clear hb
  have Os1 := Lib.hid ho
  clear ho
  go_wp2_with fail
  refine (HSpec.out _ _ _ Os1.out.reads).mono ?_
  rintro e w2 ⟨rfl, hb⟩
  have s2 : w1.heap.size ≤ w2.heap.size := hb.size
  have HB2 := Lib.hid (HB1.out.trans (hb.mono (by omega)))
  replace Os1 := Lib.hid (Os1.out.below hb)
  clear hb
  clear Os1
  go_wp2_with fail
  refine (intfns.to_any a1 zs1 c1 _ (HR1.out.below HB2.out) (by omega)).mono ?_
  rintro e w3 ⟨v, rfl, ho, hb⟩
  obtain ⟨x1a, x1c, rfl, _, _, _⟩ := ho.slice
  have s3 : w2.heap.size ≤ w3.heap.size := hb.size
  have HB3 := Lib.hid (HB2.out.trans (hb.mono (by omega)))
  clear hb
  have Ox1 := Lib.hid ho
  clear ho
  go_wp2_with fail
  refine (HImpl.out _ _ _ Ox1.out.reads).mono ?_
  rintro e w4 ⟨rfl, hb⟩
  have s4 : w3.heap.size ≤ w4.heap.size := hb.size
  have HB4 := Lib.hid (HB3.out.trans (hb.mono (by omega)))
  replace Ox1 := Lib.hid (Ox1.out.below hb)
  clear hb
  go_wp2_with fail
  refine (intfns.to_any a1 zs1 c1 _ (HR1.out.below HB4.out) (by omega)).mono ?_
  rintro e w5 ⟨v, rfl, ho, hb⟩
  obtain ⟨q1a, q1c, rfl, _, _, _⟩ := ho.slice
  have s5 : w4.heap.size ≤ w5.heap.size := hb.size
  have HB5 := Lib.hid (HB4.out.trans (hb.mono (by omega)))
  replace Ox1 := Lib.hid (Ox1.out.below hb)
  clear hb
  have Oq1 := Lib.hid ho
  clear ho
  go_wp2_with fail
  refine (intfns.eq_same _ _ zs1 _ _ _ Ox1.out.reads Oq1.out.reads (by omega)).mono ?_
  rintro e w6 ⟨rfl, hb⟩
  have s6 : w5.heap.size ≤ w6.heap.size := hb.size
  have HB6 := Lib.hid (HB5.out.trans (hb.mono (by omega)))
  replace Ox1 := Lib.hid (Ox1.out.below hb)
  replace Oq1 := Lib.hid (Oq1.out.below hb)
  clear hb
  clear Oq1
  go_wp2_with fail
  go_ret
  exact ⟨rfl, HB6.out⟩
end Go.Proofs.Ytldimbipjjjghaa.fnExactSizeOfw

namespace Go.Proofs.Ytldimbipjjjghaa.gridfns
open Go.RowKit own
set_option linter.unusedVariables false

set_option maxHeartbeats 400000 in
theorem sz_yes (a : Option Addr) (rows : List (List Int)) (c : Nat) (left : Int) (w : World) (hr : grid.Reads w a rows)
    (h0 : (rows.length : Int) + (grid.tot rows : Int) ≤ left) (h1 : left ≤ 1048576) :
    Calls Try.prog 63 #[.slice a rows.length c, .int .i64 left] w fun e w' => e = .returned (.int .i64 (left - rows.length - grid.tot rows)) ∧ w = w' := by
  go_enter Try.func63, Try.ntmps63
  go_wp2
  go_loop [1, 5] (fun l i => ∃ k : Nat, k ≤ rows.length ∧ i = .int .i64 k ∧ l = .int .i64 (left - rows.length - grid.tot (rows.take k))) (fun _ i => rows.length - (intOf i).toNat)
  case atStart => exact ⟨0, Nat.zero_le _, rfl, by simp [grid.tot]⟩
  case round =>
    obtain ⟨k, hk, rfl, rfl⟩ := hrel
    by_cases hlt : k < rows.length
    · obtain ⟨b, off, p, c', rfl, hb, hc, _, _⟩ := hr.at hlt
      have HS := Lib.hid (grid.tot_take_succ rows k hlt)
      have hle := grid.tot_take_le rows (k + 1)
      rw [HS.out] at hle
      generalize hx : grid.tot (rows.take k) = x at *
      generalize hs : rows.getD k [] = s at *
      clear hx hs
      go_wp2_with fail
      refine (intfns.sz_yes _ _ _ _ _ (by omega) (by omega)).mono ?_
      rintro e w' ⟨rfl, rfl⟩
      go_wp2_with fail
      go_round
      case rel => exact ⟨k + 1, by omega, by go_num, by rw [HS.out]; go_num⟩
      case measure => simp [intOf]; omega
    · have : k = rows.length := by omega
      subst this
      rw [grid.tot_all]
      go_wp2
      go_ret
      exact ⟨rfl, rfl⟩

set_option maxHeartbeats 400000 in
theorem sz_no (a : Option Addr) (rows : List (List Int)) (c : Nat) (left : Int) (w : World) (hr : grid.Reads w a rows) (hl : rows.length ≤ 9223372036854775807) (hs : ∀ s ∈ rows, s.length ≤ 9223372036854775807)
    (h0 : left < (rows.length : Int) + (grid.tot rows : Int)) (h1 : left ≤ 1048576) (h2 : 0 ≤ left) :
    Calls Try.prog 63 #[.slice a rows.length c, .int .i64 left] w fun e w' => e = .returned (.int .i64 (-1)) ∧ w = w' := by
  by_cases hn : left < (rows.length : Int)
  · go_enter Try.func63, Try.ntmps63
    go_wp2_with fail
    go_ret
    exact ⟨rfl, rfl⟩
  go_enter Try.func63, Try.ntmps63
  go_wp2
  go_loop [1, 5] (fun l i => ∃ k : Nat, k ≤ rows.length ∧ i = .int .i64 k ∧ l = .int .i64 (left - rows.length - grid.tot (rows.take k)) ∧ (grid.tot (rows.take k) : Int) ≤ left - rows.length) (fun _ i => rows.length - (intOf i).toNat)
  case atStart => exact ⟨0, Nat.zero_le _, rfl, by simp [grid.tot], by simp [grid.tot]; omega⟩
  case round =>
    obtain ⟨k, hk, rfl, rfl, hx0⟩ := hrel
    by_cases hlt : k < rows.length
    · obtain ⟨b, off, p, c', rfl, hb, hc, _, _⟩ := hr.at hlt
      have HS := Lib.hid (grid.tot_take_succ rows k hlt)
      have hsz : (rows.getD k []).length ≤ 9223372036854775807 := hs _ (by rw [List.getD_eq_getElem?_getD, List.getElem?_eq_getElem hlt]; simp)
      generalize hx : grid.tot (rows.take k) = x at *
      generalize hs' : rows.getD k [] = s at *
      clear hx hs' hs
      by_cases hlong : left - rows.length - (x : Int) - (s.length : Int) < 0
      · go_wp2_with fail
        refine (intfns.sz_no _ _ _ _ _ (by omega) (by omega) (by omega) hsz).mono ?_
        rintro e w' ⟨rfl, rfl⟩
        go_wp2_with fail
        go_ret
        exact ⟨rfl, rfl⟩
      · go_wp2_with fail
        refine (intfns.sz_yes _ _ _ _ _ (by omega) (by omega)).mono ?_
        rintro e w' ⟨rfl, rfl⟩
        go_wp2_with fail
        go_round
        case rel => exact ⟨k + 1, by omega, by go_num, by rw [HS.out]; go_num, by rw [HS.out]; omega⟩
        case measure => simp [intOf]; omega
    · have : k = rows.length := by omega
      subst this
      rw [grid.tot_all] at hx0
      omega

theorem infoInts : (Try.prog.info? 23).map (fun i => (i.zero, i.size, i.bytes)) = some (some (.slice none 0 0), 1, 24) := by kernel_rfl

set_option maxRecDepth 100000 in
set_option maxHeartbeats 1000000 in
theorem to_any (a : Option Addr) (rows : List (List Int)) (c : Nat) (w : World) (hr : grid.Reads w a rows) (hn : (rows.length : Int) + (grid.tot rows : Int) ≤ 1048576) :
    Calls Try.prog 67 #[.slice a rows.length c] w (MadeG rows w) := by
  obtain ⟨i0, hi, hz0, hz1, hz2⟩ := info_parts infoInts
  go_enter Try.func67, Try.ntmps67
  go_wp2_with (refine wpList_make_full _ rfl _ _ 22 rfl w.heap.size 23 i0 (.slice none 0 0) 1 Try.underlying22 hi hz0 hz1 .i64 .i64 _ _ rows.length rfl rfl rfl rfl (by rw [hz2]; omega) (by unfold maxLen; omega) (Nat.le_refl _) ?_; intro w1 hown1 hgrow1; refine Hid.out ?_)
  refine Lib.hid ?_
  have hb1 : Below w.heap.size w w1 := (Below.refl _ _).grown hgrow1 (Nat.le_refl _) (by simp)
  rw [show (Value.slice none 0 0).cells = #[Value.slice none 0 0] from rfl, Nat.mul_one, toList_madeCells_one] at hown1
  have hgg := OwnPart.start hown1
  go_wp2
  go_loopw [4] (fun i wr => ∃ k : Nat, k ≤ rows.length ∧ i = .int .i64 k ∧ OwnPart w.heap.size w.heap.size wr rows k ∧ Below w.heap.size w wr) (fun i _ => rows.length - (intOf i).toNat)
  case atStart => exact ⟨0, Nat.zero_le _, rfl, hgg, hb1⟩
  case round =>
    obtain ⟨k, hk, rfl, hown, hbel⟩ := hrel
    clear hown1 hgrow1 hb1 hgg
    by_cases hlt : k < rows.length
    · obtain ⟨b, off, p, c', rfl, hb, hc, _, hrow⟩ := (hr.below hbel).at hlt
      have hle := grid.getD_le_tot rows k
      have HO := Lib.hid hown
      have HB := Lib.hid hbel
      have hsz := hbel.size
      clear hown hbel
      generalize hs : rows.getD k [] = s at *
      have HS := Lib.hid hs
      clear hs
      go_wp2_with fail
      refine (intfns.to_any _ _ _ _ hrow (by omega)).mono ?_
      rintro e w2 ⟨v, rfl, hov, hb2⟩
      obtain ⟨p2, q2, hv2, _, _, _⟩ := hov.slice
      subst hv2
      obtain ⟨hcell, hfro, hst⟩ := HO.out.store hlt hb2 (by rw [HS.out]; exact hov)
      have HST := Lib.hid hst
      have HB2 := Lib.hid (HB.out.trans (hb2.mono hsz))
      clear hst hb2 hov
      go_wp2_with fail
      go_roundw
      case rel => exact ⟨k + 1, by omega, by go_num, HST.out, HB2.out.setCell (Nat.le_refl _) _⟩
      case measure => simp [intOf]; omega
    · have : k = rows.length := by omega
      subst this
      have HO := Lib.hid hown.done
      have HB := Lib.hid hbel
      clear hown hbel
      go_wp2
      go_ret
      exact ⟨_, rfl, HO.out, HB.out⟩

theorem below_of3 {b o b' o' : Nat} {x x' : Value} {w wr wa : World} (hB : Below w.heap.size w wr) (h : wa.cell? ⟨b, o, none⟩ = some x ∧ wa.cell? ⟨b', o', none⟩ = some x' ∧ Below wr.heap.size wr wa) : Below w.heap.size w wa := hB.trans (h.2.2.mono hB.size)

set_option maxHeartbeats 800000 in
theorem eq_same (a a' : Option Addr) (rows : List (List Int)) (c c' : Nat) (w : World) (hr : grid.Reads w a rows) (hr' : grid.Reads w a' rows) (hn : rows.length ≤ 9223372036854775807) (hm : ∀ s ∈ rows, s.length ≤ 9223372036854775807) :
    Calls Try.prog 72 #[.slice a rows.length c, .slice a' rows.length c'] w fun e w' => e = .returned (.bool true) ∧ Below w.heap.size w w' := by
  go_enter Try.func72, Try.ntmps72
  go_wp2
  go_loopw [5] (fun i wr => ∃ k : Nat, k ≤ rows.length ∧ i = .int .i64 k ∧ Below w.heap.size w wr) (fun i _ => rows.length - (intOf i).toNat)
  case atStart => exact ⟨0, Nat.zero_le _, rfl, Below.refl _ _⟩
  case round =>
    obtain ⟨k, hk, rfl, hbel⟩ := hrel
    by_cases hlt : k < rows.length
    · obtain ⟨b, off, p, q, rfl, hb, hc, _, hrow⟩ := (hr.below hbel).at hlt
      obtain ⟨b', off', p', q', rfl, hb', hc', _, hrow'⟩ := (hr'.below hbel).at hlt
      have hsz : (rows.getD k []).length ≤ 9223372036854775807 := hm _ (by rw [List.getD_eq_getElem?_getD, List.getElem?_eq_getElem hlt]; simp)
      have HB := Lib.hid hbel
      have hws := hbel.size
      clear hbel
      generalize hs : rows.getD k [] = s at *
      clear hs
      have HT := Lib.hid (show ∀ wa : World, (wa.cell? ⟨b, off + k, none⟩ = some (.slice p s.length q) ∧ wa.cell? ⟨b', off' + k, none⟩ = some (.slice p' s.length q') ∧ Below wr.heap.size wr wa) → Calls Try.prog 30 #[.slice p s.length q, .slice p' s.length q'] wa fun e w' => e = .returned (.bool true) ∧ (w'.cell? ⟨b, off + k, none⟩ = some (.slice p s.length q) ∧ w'.cell? ⟨b', off' + k, none⟩ = some (.slice p' s.length q') ∧ Below wr.heap.size wr w') from fun wa hS =>
        (intfns.eq_same _ _ _ _ _ wa (hrow.below hS.2.2) (hrow'.below hS.2.2) hsz).mono fun _ w' ⟨he, hbx⟩ => ⟨he, (hbx.cell (p := ⟨b, off + k, none⟩) (Nat.lt_of_lt_of_le hb hS.2.2.size)).trans hS.1, (hbx.cell (p := ⟨b', off' + k, none⟩) (Nat.lt_of_lt_of_le hb' hS.2.2.size)).trans hS.2.1, hS.2.2.trans (hbx.mono hS.2.2.size)⟩)
      go_wp2_with fail
      go_region_held3 (fun w' => w'.cell? ⟨b, off + k, none⟩ = some (.slice p s.length q) ∧ w'.cell? ⟨b', off' + k, none⟩ = some (.slice p' s.length q') ∧ Below wr.heap.size wr w')
        (first | assumption | exact ⟨hc, hc', Below.refl _ _⟩ | exact ⟨hc, hc', (Below.refl _ _).drew⟩)
        (first | (go_at_call 30; refine Calls.mono (HT.out _ ?_) ?_; assumption; rintro e w' ⟨rfl, hbx⟩))
      go_wp2_with fail
      go_roundw
      case rel =>
        refine ⟨k + 1, by omega, by go_num, ?_⟩
        refine below_of3 (b := b) (o := off + k) (b' := b') (o' := off' + k) (x := .slice p s.length q) (x' := .slice p' s.length q') HB.out ?_
        assumption
      case measure => simp [intOf]; omega
    · have HB := Lib.hid hbel
      clear hbel
      go_wp2
      go_ret
      exact ⟨rfl, HB.out⟩
/-- What marking a slice of slices of the call's own leaves. -/
def MarkedG (lo hi : Nat) (v : Value) (rows : List (List Int)) (cs : List Value) (K : Nat) (w : World) (e : Ending) (w' : World) : Prop :=
  e = .returned (.int .i64 (K + grid.tot rows : Nat)) ∧ OwnC lo hi w' v (markRows K rows) cs ∧ Stir (Blk cs rows.length) w w'

set_option maxHeartbeats 1000000 in
theorem mark_any (lo hi : Nat) (a : Option Addr) (c : Nat) (rows : List (List Int)) (cs : List Value) (K : Nat) (w : World) (h : OwnC lo hi w (.slice a rows.length c) rows cs) (h2 : K + grid.tot rows ≤ 4611686018427387904) (hn : rows.length ≤ 9223372036854775807) :
    Calls Try.prog 73 #[.slice a rows.length c, .int .i64 K] w (MarkedG lo hi (.slice a rows.length c) rows cs K w) := by
  obtain ⟨h1, hblk, h5⟩ := h
  have HB := Lib.hid hblk
  have H1 := Lib.hid h1
  have H5 := Lib.hid (show RowsOf lo hi w cs (markPart K rows 0) by rw [markPart_zero]; exact h5)
  clear hblk h1 h5
  go_enter Try.func73, Try.ntmps73
  go_wp2_with fail
  go_loopw [1, 5] (fun q i wr => ∃ k : Nat, k ≤ rows.length ∧ i = .int .i64 k ∧ q = .int .i64 (K + grid.tot (rows.take k) : Nat) ∧ wr.ownsRow lo 23 1 (.slice a rows.length c) rows.length cs ∧ RowsOf lo hi wr cs (markPart K rows k) ∧ Stir (Blk cs rows.length) w wr) (fun _ i _ => rows.length - (intOf i).toNat)
  case atStart => exact ⟨0, Nat.zero_le _, rfl, by simp [grid.tot], H1.out, H5.out, Stir.refl _ _⟩
  case round =>
    obtain ⟨k, hk, rfl, rfl, ho, hrow, hon⟩ := hrel
    by_cases hlt : k < rows.length
    · have hoi := hrow.2.1 k (by rw [markPart_length]; exact hlt)
      rw [markPart_getD _ _ _ _ hlt, if_neg (by omega)] at hoi
      obtain ⟨p, q, hv, hrd, hpc, hml⟩ := hoi.slice
      obtain ⟨b, off, hab, hb, hc⟩ : ∃ b off, a = some ⟨b, off, none⟩ ∧ b < wr.heap.size ∧ wr.cell? ⟨b, off + k, none⟩ = some (cs.getD k undef) := by
        rcases ho.2 with ⟨e, h0⟩ | ⟨g, cap, cur, e, hl, hh, hn', hm, hs, ht⟩
        · omega
        · cases e
          refine ⟨g, 0, rfl, (Array.getElem?_eq_some_iff.1 hh).1, ?_⟩
          have hx := ho.cells (g := g) rfl k (cs.getD k undef) (by rw [List.getD_eq_getElem?_getD, List.getElem?_eq_getElem (by have := hrow.1; rw [markPart_length] at this; omega)]; simp)
          rw [Go.WideShapes.add_plain] at hx
          simpa using hx
      subst hab
      have HT := Lib.hid (grid.tot_take_succ rows k hlt)
      have hle := grid.tot_take_le rows (k + 1)
      rw [HT.out] at hle
      have HO := Lib.hid ho
      have HR := Lib.hid hrow
      have HN := Lib.hid hon
      have HV := Lib.hid hv
      rw [hv] at hc hoi
      clear ho hrow hon hv hrd
      have HI := Lib.hid hoi
      clear hoi
      have HM := Lib.hid (show mk K rows k = intfns.marks (K + grid.tot (rows.take k)) (rows.getD k []).length from rfl)
      generalize hx : grid.tot (rows.take k) = x at *
      generalize hs : rows.getD k [] = s at *
      clear hs hx
      go_wp2_with fail
      refine (intfns.mark_any lo hi _ _ s (K + x) wr HI.out (by omega)).mono ?_
      rintro e w2 ⟨rfl, hoi2, hg2⟩
      have HI2 := Lib.hid hoi2
      have HG2 := Lib.hid hg2
      clear hoi2 hg2
      go_wp2_with fail
      go_roundw
      case rel =>
        have hI := HI.out
        have e1 : Stir (Blk cs rows.length) wr w2 := Stir.of_grown (HG2.out _ rfl) fun g hg => ⟨k, hlt, by rw [HV.out]; exact hg⟩
        refine ⟨k + 1, by omega, by go_num, by rw [HT.out]; go_num, ?_, ?_, HN.out.trans e1⟩
        · exact ownsRow_block HO.out fun g hg => (HG2.out _ rfl).block g (HO.out.lt g hg).2 fun e => ownsRow_ne hI.1 HO.out (by decide) e.symm hg
        · refine HR.out.mark hlt (by rw [HV.out, HM.out]; exact HI2.out) (by rw [HV.out]; exact HG2.out)
      case measure => simp [intOf]; omega
    · obtain rfl : k = rows.length := by omega
      have HF := Lib.hid (show OwnC lo hi wr (.slice a rows.length c) (markRows K rows) cs from ⟨by rw [markRows_length]; exact ho, HB.out, hrow⟩)
      have HN := Lib.hid hon
      clear ho hrow hon
      rw [grid.tot_all]
      go_wp2_with fail
      go_ret
      exact ⟨rfl, HF.out, HN.out⟩

set_option maxHeartbeats 1000000 in
theorem held_any (a : Option Addr) (c : Nat) (rows : List (List Int)) (K : Nat) (w : World) (hr : grid.Reads w a (markRows K rows)) (h2 : K + grid.tot rows ≤ 4611686018427387904) (hn : rows.length ≤ 9223372036854775807) :
    Calls Try.prog 84 #[.slice a rows.length c, .int .i64 K] w fun e w' => e = .returned (.int .i64 (K + grid.tot rows : Nat)) ∧ Below w.heap.size w w' := by
  go_enter Try.func84, Try.ntmps84
  go_wp2_with fail
  go_loopw [1, 5] (fun q i wr => ∃ k : Nat, k ≤ rows.length ∧ i = .int .i64 k ∧ q = .int .i64 (K + grid.tot (rows.take k) : Nat) ∧ Below w.heap.size w wr) (fun _ i _ => rows.length - (intOf i).toNat)
  case atStart => exact ⟨0, Nat.zero_le _, rfl, by simp [grid.tot], Below.refl _ _⟩
  case round =>
    obtain ⟨k, hk, rfl, rfl, hb⟩ := hrel
    have HB := Lib.hid hb
    have hws := hb.size
    by_cases hlt : k < rows.length
    · obtain ⟨g, off, p, q, rfl, hg, hcell, hq, hrow⟩ := (hr.below hb).at (k := k) (by rw [markRows_length]; exact hlt)
      rw [markRows_getD K rows k hlt] at hcell hrow
      unfold mk at hcell hrow
      rw [intfns.marks_length] at hcell
      clear hb hq
      have HT := Lib.hid (grid.tot_take_succ rows k hlt)
      have hle := grid.tot_take_le rows (k + 1)
      rw [HT.out] at hle
      generalize hx : grid.tot (rows.take k) = x at *
      generalize hs : rows.getD k [] = s at *
      clear hs hx
      go_wp2_with fail
      refine (intfns.held_any _ _ s.length (K + x) wr hrow (by omega)).mono ?_
      rintro e w2 ⟨rfl, hb2⟩
      have HB2 := Lib.hid (HB.out.trans (hb2.mono hws))
      clear hb2 hrow
      go_wp2_with fail
      go_roundw
      case rel => exact ⟨k + 1, by omega, by go_num, by rw [HT.out]; go_num, HB2.out⟩
      case measure => simp [intOf]; omega
    · obtain rfl : k = rows.length := by omega
      clear hb
      rw [grid.tot_all]
      go_wp2_with fail
      go_ret
      exact ⟨rfl, HB.out⟩
end Go.Proofs.Ytldimbipjjjghaa.gridfns

namespace Go.Proofs.Ytldimbipjjjghaa.samplefns
open Go.RowKit own
set_option linter.unusedVariables false

theorem sz_yes (a : Option Addr) (rows : List (List Int)) (c : Nat) (a' : Option Addr) (n c' : Nat) (left : Int) (w : World) (hr : grid.Reads w a rows)
    (h0 : (rows.length : Int) + (grid.tot rows : Int) + (n : Int) ≤ left) (h1 : left ≤ 1048576) :
    Calls Try.prog 14 #[.agg #[.slice a rows.length c, .slice a' n c'], .int .i64 left] w fun e w' => e = .returned (.int .i64 (left - rows.length - grid.tot rows - n)) ∧ Below w.heap.size w w' := by
  have hB := ((Below.refl w.heap.size w).alloc (Nat.le_refl _) (.cells #[.slice a rows.length c, .slice a' n c'] 25))
  have hr1 := hr.below hB
  have HB := Lib.hid hB
  clear hB
  go_enter Try.func14, Try.ntmps14
  go_wp2_with fail
  refine (gridfns.sz_yes _ _ _ _ _ hr1 (by omega) (by omega)).mono ?_
  rintro e w' ⟨rfl, rfl⟩
  go_wp2_with fail
  refine (intfns.sz_yes _ _ _ _ _ (by omega) (by omega)).mono ?_
  rintro e w' ⟨rfl, rfl⟩
  go_wp2_with fail
  go_ret
  exact ⟨rfl, HB.out⟩

theorem sz_no (a : Option Addr) (rows : List (List Int)) (c : Nat) (a' : Option Addr) (n c' : Nat) (left : Int) (w : World) (hr : grid.Reads w a rows) (hl : rows.length ≤ 9223372036854775807) (hs : ∀ s ∈ rows, s.length ≤ 9223372036854775807) (hn : n ≤ 9223372036854775807)
    (h0 : left < (rows.length : Int) + (grid.tot rows : Int) + (n : Int)) (h1 : left ≤ 1048576) (h2 : 0 ≤ left) :
    Calls Try.prog 14 #[.agg #[.slice a rows.length c, .slice a' n c'], .int .i64 left] w fun e w' => e = .returned (.int .i64 (-1)) ∧ Below w.heap.size w w' := by
  have hB := ((Below.refl w.heap.size w).alloc (Nat.le_refl _) (.cells #[.slice a rows.length c, .slice a' n c'] 25))
  have hr1 := hr.below hB
  have HB := Lib.hid hB
  have HS := Lib.hid hs
  clear hB hs
  by_cases hg : left < (rows.length : Int) + (grid.tot rows : Int)
  · go_enter Try.func14, Try.ntmps14
    go_wp2_with fail
    refine (gridfns.sz_no _ _ _ _ _ hr1 hl HS.out hg h1 h2).mono ?_
    rintro e w' ⟨rfl, rfl⟩
    go_wp2_with fail
    go_ret
    exact ⟨rfl, HB.out⟩
  · go_enter Try.func14, Try.ntmps14
    go_wp2_with fail
    refine (gridfns.sz_yes _ _ _ _ _ hr1 (by omega) (by omega)).mono ?_
    rintro e w' ⟨rfl, rfl⟩
    go_wp2_with fail
    refine (intfns.sz_no _ _ _ _ _ (by omega) (by omega) (by omega) hn).mono ?_
    rintro e w' ⟨rfl, rfl⟩
    go_wp2_with fail
    go_ret
    exact ⟨rfl, HB.out⟩

/-- What a copy is. -/
def MadeS (rows : List (List Int)) (zs : List Int) (w : World) (e : Ending) (w' : World) : Prop :=
  ∃ p l, e = .returned (.agg #[p, l]) ∧ OwnS w.heap.size w'.heap.size w' p l rows zs ∧ Below w.heap.size w w'

set_option maxHeartbeats 400000 in
theorem to_any (a : Option Addr) (rows : List (List Int)) (c : Nat) (a' : Option Addr) (zs : List Int) (c' : Nat) (w : World) (hr : grid.Reads w a rows) (hr' : ints.Reads .i64 w a' zs) (hn : (rows.length : Int) + (grid.tot rows : Int) ≤ 1048576) (hz : zs.length ≤ 1048576) :
    Calls Try.prog 16 #[.agg #[.slice a rows.length c, .slice a' zs.length c']] w (MadeS rows zs w) := by
  have hB : Below w.heap.size w (((w.alloc (.cells #[.slice a rows.length c, .slice a' zs.length c'] 25)).alloc (.cells #[.slice none 0 0, .slice none 0 0] 31)).alloc (.cells #[.slice none 0 0, .slice none 0 0] 31)) :=
    (((Below.refl _ _).alloc (Nat.le_refl _) _).alloc (by simp) _).alloc (by simp; omega) _
  have hr1 := hr.below hB
  have HB := Lib.hid hB
  clear hB hr
  go_enter Try.func16, Try.ntmps16
  go_wp2_with fail
  refine (gridfns.to_any a rows c _ hr1 hn).mono ?_
  rintro e w1 ⟨v, rfl, ho, hb⟩
  obtain ⟨p, q, rfl, _, _, _⟩ := ho.slice
  obtain ⟨hc, hf⟩ := bcell hb
  have hs : w.heap.size + 1 + 1 < w1.heap.size := by have := hb.size; simp at this; omega
  have hs' : w.heap.size + 1 < w1.heap.size := by omega
  have hs'' : w.heap.size < w1.heap.size := by omega
  have HB1 := Lib.hid hb
  have HO := Lib.hid (ho.mono (lo' := w.heap.size + 3) (by simp) (Nat.le_refl _))
  clear ho hr1
  have hb2 := (HB.out.trans (hb.mono (by simp; omega))).setCell (p := ⟨w.heap.size + 1 + 1, 0, none⟩) (by simp; omega) (.slice p rows.length q)
  have hr3 := hr'.below hb2
  have HB2 := Lib.hid hb2
  clear hb hb2
  go_wp2_with fail
  refine (intfns.to_any a' zs c' _ hr3 hz).mono ?_
  rintro e w2 ⟨v, rfl, ho2, hb⟩
  obtain ⟨p2, q2, rfl, _, _, _⟩ := ho2.slice
  obtain ⟨hc2, hf2⟩ := bcell hb
  have hs2 : w1.heap.size ≤ w2.heap.size := by have := hb.size; simp [World.setCell] at this; omega
  have HB3 := Lib.hid (HB2.out.trans (hb.mono (by simp [World.setCell]; omega)))
  have HO1 := Lib.hid ((HO.out.block' (w' := w1.setCell ⟨w.heap.size + 1 + 1, 0, none⟩ (.slice p rows.length q)) (fun g h1 _ => Below.heap_setCell _ _ _ _ (by simp; omega)) (by simp [World.setCell])).below hb)
  have HO2 := Lib.hid ho2
  clear hb ho2 hr3
  go_wp2_with fail
  refine bodyPost_ret (v := .agg #[.slice p rows.length q, .slice p2 zs.length q2]) (by simp [results, Try.results16, go_sem, hc, hc2, hs']) rfl ⟨_, _, rfl, ?_, ?_⟩
  · simp only [size_set]
    refine OwnS.of (l1 := w.heap.size + 3) (h1 := w1.heap.size) (l2 := w1.heap.size) (h2 := w2.heap.size) ?_ ?_ (.inl (Nat.le_refl _)) (by omega) (by omega) (by omega) (Nat.le_refl _)
    · exact ((HO1.out.set (by simp) _).set (by simp) _).set (by simp) _
    · exact (((HO2.out.mono (lo' := w1.heap.size) (by simp [World.setCell]) (Nat.le_refl _)).set (by omega) _).set (by omega) _).set (by omega) _
  · exact ((HB3.out.setCell (by simp; omega) _).setCell (by simp) _).setCell (by simp) _
set_option maxHeartbeats 400000 in
theorem eq_same (a a' : Option Addr) (rows : List (List Int)) (c c' : Nat) (b b' : Option Addr) (zs : List Int) (d d' : Nat) (w : World) (hr : grid.Reads w a rows) (hr' : grid.Reads w a' rows) (hq : ints.Reads .i64 w b zs) (hq' : ints.Reads .i64 w b' zs)
    (hn : rows.length ≤ 9223372036854775807) (hm : ∀ s ∈ rows, s.length ≤ 9223372036854775807) (hz : zs.length ≤ 9223372036854775807) :
    Calls Try.prog 19 #[.agg #[.slice a rows.length c, .slice b zs.length d], .agg #[.slice a' rows.length c', .slice b' zs.length d']] w fun e w' => e = .returned (.bool true) ∧ Below w.heap.size w w' := by
  have hB := (((Below.refl w.heap.size w).alloc (Nat.le_refl _) (.cells #[.slice a rows.length c, .slice b zs.length d] 31)).alloc (by simp) (.cells #[.slice a' rows.length c', .slice b' zs.length d'] 31))
  have hr1 := hr.below hB
  have hr1' := hr'.below hB
  have hq1 := hq.below hB
  have hq1' := hq'.below hB
  have HB := Lib.hid hB
  have HM := Lib.hid hm
  clear hB hr hr' hq hq' hm
  go_enter Try.func19, Try.ntmps19
  go_wp2_with fail
  refine (gridfns.eq_same _ _ rows _ _ _ hr1 hr1' hn HM.out).mono ?_
  rintro e w1 ⟨rfl, hb⟩
  obtain ⟨hc, hf⟩ := bcell hb
  have hs : w.heap.size + 1 + 1 ≤ w1.heap.size := by have := hb.size; simp at this; omega
  have hq2 := hq1.below hb
  have hq2' := hq1'.below hb
  have HB1 := Lib.hid (HB.out.trans (hb.mono (by simp; omega)))
  clear hb hr1 hr1' hq1 hq1'
  go_wp2_with fail
  refine (intfns.eq_same _ _ zs _ _ _ hq2 hq2' hz).mono ?_
  rintro e w2 ⟨rfl, hb⟩
  have HB2 := Lib.hid (HB1.out.trans (hb.mono (by omega)))
  clear hb hq2 hq2'
  go_wp2_with fail
  go_ret
  exact ⟨rfl, HB2.out⟩
/-- What marking leaves. -/
def MarkedS (lo hi : Nat) (p l : Value) (rows : List (List Int)) (n K : Nat) (w : World) (e : Ending) (w' : World) : Prop :=
  e = .returned (.int .i64 (K + grid.tot rows + n : Nat)) ∧ OwnS lo hi w' p l (markRows K rows) (intfns.marks (K + grid.tot rows) n) ∧ Only lo hi w w'

set_option maxHeartbeats 400000 in
theorem mark_any (lo hi : Nat) (a : Option Addr) (c : Nat) (rows : List (List Int)) (b : Option Addr) (d : Nat) (zs : List Int) (K : Nat) (w : World) (h : OwnS lo hi w (.slice a rows.length c) (.slice b zs.length d) rows zs) (h2 : K + grid.tot rows + zs.length ≤ 4611686018427387904) (hn : rows.length ≤ 9223372036854775807) :
    Calls Try.prog 20 #[.agg #[.slice a rows.length c, .slice b zs.length d], .int .i64 K] w (MarkedS lo hi (.slice a rows.length c) (.slice b zs.length d) rows zs.length K w) := by
  have hB := ((Below.refl w.heap.size w).alloc (Nat.le_refl _) (.cells #[.slice a rows.length c, .slice b zs.length d] 31))
  obtain ⟨cs, k1, h3', h4⟩ := h
  have hlow : ∀ g, Blk cs rows.length g → g ≠ w.heap.size := fun g hg e => by have := (k1.blk hg).2.2; omega
  have hlow2 : ∀ g, (Value.slice b zs.length d).ownBlock = some g → g ≠ w.heap.size := fun g hg e => by have := (h3'.lt hg).2.2; omega
  have h1 : OwnC lo hi _ (.slice a rows.length c) rows cs := k1.stir (Stir.of_below (S := fun _ => False) hB) (fun _ _ h => h) (fun _ _ h => h)
  have h3 := h3'.below hB
  have HL := Lib.hid hlow
  have HL2 := Lib.hid hlow2
  have hblk : ∀ g, (Value.slice a rows.length c).ownBlock = some g → (Value.slice b zs.length d).ownBlock ≠ some g := fun g hg => ownsRow_ne h1.1 h3.1 (by decide) hg
  have hpl : ∀ g, (Value.slice a rows.length c).ownBlock = some g → ¬ Blk cs rows.length g := fun g hg ⟨i, hi, he⟩ => ownsRow_ne h1.1 (h1.2.2.2.1 i hi).1 (by decide) hg he
  have HP := Lib.hid hpl
  have HQ := Lib.hid hblk
  have H1 := Lib.hid h1
  have H3 := Lib.hid h3
  have H4 := Lib.hid h4
  have HB := Lib.hid hB
  clear hB h1 h3 h4 hpl hblk hlow hlow2 k1 h3'
  go_enter Try.func20, Try.ntmps20
  go_wp2_with fail
  refine (gridfns.mark_any lo hi _ _ rows cs K _ H1.out (by omega) hn).mono ?_
  rintro e w1 ⟨rfl, ho1, ht1⟩
  have hc : ∀ o, w1.cell? ⟨w.heap.size, o, none⟩ = (w.alloc (.cells #[.slice a rows.length c, .slice b zs.length d] 31)).cell? ⟨w.heap.size, o, none⟩ := fun o =>
    World.cell?_of_block (ht1.block w.heap.size (by simp) (fun hb => HL.out _ hb rfl))
  have HO1 := Lib.hid ho1
  have HL1 := Lib.hid (H3.out.stir ht1 H4.out)
  have HT1 := Lib.hid ht1
  clear ho1 ht1
  go_wp2_with fail
  refine (intfns.mark_any lo hi _ _ zs (K + grid.tot rows) _ HL1.out (by omega)).mono ?_
  rintro e w2 ⟨rfl, ho2, hg2⟩
  have HO2 := Lib.hid ho2
  have HG2 := Lib.hid hg2
  clear ho2 hg2
  go_wp2_with fail
  go_ret
  have hS2 : Stir (fun g => some g = (Value.slice b zs.length d).ownBlock) w1 w2 := Stir.of_grown (HG2.out _ rfl) fun g hg => hg.symm
  refine ⟨rfl, ⟨cs, HO1.out.stir hS2 (fun g hg e => HQ.out g hg e.symm) (fun g hg e => H4.out g e.symm (by rw [markRows_length] at hg; exact hg)), HO2.out, by rw [markRows_length]; exact H4.out⟩, ?_⟩
  refine (Only.of_below HB.out).trans ((HT1.out.only fun k hk => ⟨(H1.out.blk hk).1, (H1.out.blk hk).2.1⟩).trans (hS2.only fun k hk => ⟨(H3.out.lt hk.symm).1, (H3.out.lt hk.symm).2.1⟩))
theorem held_any (a : Option Addr) (c : Nat) (rows : List (List Int)) (b : Option Addr) (d n K : Nat) (w : World) (hr : grid.Reads w a (markRows K rows)) (hq : ints.Reads .i64 w b (intfns.marks (K + grid.tot rows) n)) (h2 : K + grid.tot rows + n ≤ 4611686018427387904) (hn : rows.length ≤ 9223372036854775807) :
    Calls Try.prog 25 #[.agg #[.slice a rows.length c, .slice b n d], .int .i64 K] w fun e w' => e = .returned (.int .i64 (K + grid.tot rows + n : Nat)) ∧ Below w.heap.size w w' := by
  have hB := ((Below.refl w.heap.size w).alloc (Nat.le_refl _) (.cells #[.slice a rows.length c, .slice b n d] 31))
  have hr1 := hr.below hB
  have hq1 := hq.below hB
  have HB := Lib.hid hB
  clear hB hr hq
  go_enter Try.func25, Try.ntmps25
  go_wp2_with fail
  refine (gridfns.held_any _ _ rows K _ hr1 (by omega) hn).mono ?_
  rintro e w1 ⟨rfl, hb⟩
  obtain ⟨hc, hf⟩ := bcell hb
  have hq2 := hq1.below hb
  have HB1 := Lib.hid (HB.out.trans (hb.mono (by simp)))
  have hs := hb.size
  simp at hs
  clear hb hr1 hq1
  go_wp2_with fail
  refine (intfns.held_any _ _ n (K + grid.tot rows) _ hq2 h2).mono ?_
  rintro e w2 ⟨rfl, hb⟩
  have HB2 := Lib.hid (HB1.out.trans (hb.mono (by omega)))
  clear hb
  go_wp2_with fail
  go_ret
  exact ⟨rfl, HB2.out⟩
end Go.Proofs.Ytldimbipjjjghaa.samplefns
