/- The walks of the laws' own helpers on lists of integers: szIntS, toIntS, eqIntS, markIntS, heldIntS. -/
import Derived.Test.YtkbcofgigfnfaabRows
import Derived.Test.YtkbcofgigfnfaabOwn
import Derived.WalkSpells
import Derived.WalkLawsBesides
import Derived.Outline
import Derived.ProofKit
import Derived.Deep.QuietTactic
import Derived.BigQuiet
import Derived.Maps.AppendAt
namespace Go.Proofs.Ytkbcofgigfnfaab.intfns
open Go.RowKit own
set_option linter.unusedVariables false

theorem sz_yes (a : Option Addr) (n c : Nat) (left : Int) (w : World) (h0 : (n : Int) ≤ left) (h1 : left ≤ 1048576) :
    Calls Try.prog 63 #[.slice a n c, .int .i64 left] w fun e w' => e = .returned (.int .i64 (left - n)) ∧ w = w' := by
  go_enter Try.func63, Try.ntmps63
  go_wp2
  go_ret
  exact ⟨rfl, rfl⟩

theorem sz_no (a : Option Addr) (n c : Nat) (left : Int) (w : World) (h0 : left < (n : Int)) (h1 : left ≤ 1048576) (h2 : 0 ≤ left) (hn : n ≤ 9223372036854775807) :
    Calls Try.prog 63 #[.slice a n c, .int .i64 left] w fun e w' => e = .returned (.int .i64 (-1)) ∧ w = w' := by
  go_enter Try.func63, Try.ntmps63
  go_wp2
  go_ret
  exact ⟨rfl, rfl⟩

theorem infoInt : (Try.prog.info? 3).map (fun i => (i.zero, i.size, i.bytes)) = some (some (.int .i64 0), 1, 8) := by kernel_rfl

/-- The first k of the numbers, then zeros. -/
def filled (zs : List Int) (k : Nat) : List Value := (zs.take k).map (Value.int .i64) ++ List.replicate (zs.length - k) (.int .i64 0)

theorem filled_zero (zs : List Int) : filled zs 0 = List.replicate zs.length (.int .i64 0) := by simp [filled]
theorem filled_all (zs : List Int) : filled zs zs.length = zs.map (Value.int .i64) := by simp [filled]

theorem filled_succ (zs : List Int) (k : Nat) (h : k < zs.length) : (filled zs k).set k (.int .i64 (zs.getD k 0)) = filled zs (k + 1) := by
  unfold filled
  rw [List.set_append, if_neg (by simp; omega)]
  have e : zs.length - k = (zs.length - (k + 1)) + 1 := by omega
  rw [e, List.replicate_succ, show k - ((zs.take k).map (Value.int .i64)).length = 0 by simp; omega, List.set_cons_zero, List.take_succ_eq_append_getElem h, List.map_append, List.append_assoc, List.getD_eq_getElem?_getD, List.getElem?_eq_getElem h]
  rfl

theorem filled_at (zs : List Int) (k : Nat) (h : k < zs.length) : (filled zs k)[k]? = some (.int .i64 0) := by
  unfold filled
  rw [List.getElem?_append_right (by simp; omega), List.getElem?_replicate, if_pos (by simp; omega)]

set_option maxHeartbeats 800000 in
theorem to_row (a : Option Addr) (zs : List Int) (c : Nat) (w : World) (hr : ints.Reads .i64 w a zs) (hn : zs.length ≤ 1048576) :
    Calls Try.prog 68 #[.slice a zs.length c] w fun e w' => e = .returned (.slice (some ⟨w.heap.size, 0, none⟩) zs.length zs.length) ∧
      w'.ownsRow w.heap.size 3 1 (.slice (some ⟨w.heap.size, 0, none⟩) zs.length zs.length) zs.length (zs.map (Value.int .i64)) ∧ Below w.heap.size w w' := by
  obtain ⟨i0, hi, hz0, hz1, hz2⟩ := info_parts infoInt
  go_enter Try.func68, Try.ntmps68
  go_wp2_with (refine wpList_make_full _ rfl _ _ 23 rfl w.heap.size 3 i0 (.int .i64 0) 1 Try.underlying23 hi hz0 hz1 .i64 .i64 _ _ zs.length rfl rfl rfl rfl (by rw [hz2]; omega) (by unfold maxLen; omega) (Nat.le_refl _) ?_; intro w1 hown1 hgrow1; refine Hid.out ?_)
  refine Lib.hid ?_
  have hb1 : Below w.heap.size w w1 := (Below.refl _ _).grown hgrow1 (Nat.le_refl _) (by simp)
  rw [show (Value.int .i64 0).cells = #[Value.int .i64 0] from rfl, Nat.mul_one, toList_madeCells_one, ← filled_zero] at hown1
  go_wp2
  go_loopw [4] (fun i wr => ∃ k : Nat, k ≤ zs.length ∧ i = .int .i64 k ∧ wr.ownsRow w.heap.size 3 1 (.slice (some ⟨w.heap.size, 0, none⟩) zs.length zs.length) zs.length (filled zs k) ∧ Below w.heap.size w wr) (fun i _ => zs.length - (intOf i).toNat)
  case atStart => exact ⟨0, Nat.zero_le _, rfl, hown1, hb1⟩
  case round =>
    obtain ⟨k, hk, rfl, hown, hbel⟩ := hrel
    clear hown1 hgrow1 hb1
    by_cases hlt : k < zs.length
    · obtain ⟨b, off, rfl, hb, hc⟩ := (hr.below hbel).at hlt
      have hcell : wr.cell? ⟨w.heap.size, k, none⟩ = some (.int .i64 0) := by rw [hown.cellAt k (by omega), filled_at zs k hlt]
      have hfro := hown.frozenAt k
      have hst := hown.stored k (.int .i64 (zs.getD k 0))
      rw [filled_succ zs k hlt] at hst
      have HS := Lib.hid hst
      have HB := Lib.hid hbel
      clear hst hown hbel
      generalize hs : zs.getD k 0 = s at *
      clear hs
      go_wp2
      go_roundw
      case rel => exact ⟨k + 1, by omega, by go_num, HS.out.1, HB.out.setCell (Nat.le_refl _) _⟩
      case measure => simp [intOf]; omega
    · have : k = zs.length := by omega
      subst this
      rw [filled_all] at hown
      have HO := Lib.hid hown
      have HB := Lib.hid hbel
      clear hown hbel
      go_wp2
      go_ret
      exact ⟨rfl, HO.out, HB.out⟩

/-- What a copy is: a slice of the call's own. -/
def Made (zs : List Int) (w : World) (e : Ending) (w' : World) : Prop :=
  ∃ v, e = .returned v ∧ OwnI w.heap.size w'.heap.size w' v zs ∧ Below w.heap.size w w'

theorem to_any (a : Option Addr) (zs : List Int) (c : Nat) (w : World) (hr : ints.Reads .i64 w a zs) (hn : zs.length ≤ 1048576) :
    Calls Try.prog 68 #[.slice a zs.length c] w (Made zs w) :=
  (to_row a zs c w hr hn).mono fun _ _ ⟨he, ho, hb⟩ => ⟨_, he, OwnI.of ho, hb⟩

set_option maxHeartbeats 800000 in
theorem eq_same (a a' : Option Addr) (zs : List Int) (c c' : Nat) (w : World) (hr : ints.Reads .i64 w a zs) (hr' : ints.Reads .i64 w a' zs) (hn : zs.length ≤ 9223372036854775807) :
    Calls Try.prog 13 #[.slice a zs.length c, .slice a' zs.length c'] w fun e w' => e = .returned (.bool true) ∧ Below w.heap.size w w' := by
  go_enter Try.func13, Try.ntmps13
  go_wp2
  go_loopw [5] (fun i wr => ∃ k : Nat, k ≤ zs.length ∧ i = .int .i64 k ∧ Below w.heap.size w wr) (fun i _ => zs.length - (intOf i).toNat)
  case atStart => exact ⟨0, Nat.zero_le _, rfl, Below.refl _ _⟩
  case round =>
    obtain ⟨k, hk, rfl, hbel⟩ := hrel
    by_cases hlt : k < zs.length
    · obtain ⟨b, off, rfl, hb, hc⟩ := (hr.below hbel).at hlt
      obtain ⟨b', off', rfl, hb', hc'⟩ := (hr'.below hbel).at hlt
      have HB := Lib.hid hbel
      clear hbel
      generalize hs : zs.getD k 0 = s at *
      clear hs
      go_wp2
      go_quiet (fail)
      go_wp2
      go_roundw
      case rel => exact ⟨k + 1, by omega, by go_num, ints.below_drewN HB.out _⟩
      case measure => simp [intOf]; omega
    · have HB := Lib.hid hbel
      clear hbel
      go_wp2
      go_ret
      exact ⟨rfl, HB.out⟩

/-- The marks from a number on. -/
def marks (K n : Nat) : List Int := (List.range n).map fun i => ((K + i : Nat) : Int)
theorem marks_length (K n : Nat) : (marks K n).length = n := by simp [marks]
theorem marks_getD (K n k : Nat) (h : k < n) : (marks K n).getD k 0 = ((K + k : Nat) : Int) := by
  rw [List.getD_eq_getElem?_getD]; simp [marks, h]

/-- Some marks, then what was there. -/
def part (K k : Nat) (xs : List Value) : List Value := ((marks K k).map (Value.int .i64)) ++ xs.drop k

theorem part_succ (K n k : Nat) (xs : List Value) (hx : xs.length = n) (hk : k < n) : (part K k xs).set k (.int .i64 ((K + k : Nat) : Int)) = part K (k + 1) xs := by
  unfold part
  rw [List.set_append, if_neg (by simp [marks_length]), show marks K (k + 1) = marks K k ++ [((K + k : Nat) : Int)] by simp [marks, List.range_succ], List.map_append, List.append_assoc]
  congr 1
  rw [List.length_map, marks_length, Nat.sub_self, List.drop_eq_getElem_cons (by omega)]
  rfl

theorem part_at (K n k : Nat) (xs : List Value) (hx : xs.length = n) (hk : k < n) : (part K k xs)[k]? = xs[k]? := by
  unfold part
  rw [List.getElem?_append_right (by simp [marks_length]), List.length_map, marks_length, Nat.sub_self, List.getElem?_drop, Nat.add_zero]

set_option maxHeartbeats 1000000 in
theorem mark_row (base g cap : Nat) (zs : List Int) (K : Nat) (w : World) (hown : w.ownsRow base 3 1 (.slice (some ⟨g, 0, none⟩) zs.length cap) zs.length (zs.map (Value.int .i64))) (h2 : K + zs.length ≤ 4611686018427387904) :
    Calls Try.prog 16 #[.slice (some ⟨g, 0, none⟩) zs.length cap, .int .i64 K] w fun e w' => e = .returned (.int .i64 (K + zs.length : Nat)) ∧
      w'.ownsRow base 3 1 (.slice (some ⟨g, 0, none⟩) zs.length cap) zs.length ((marks K zs.length).map (Value.int .i64)) ∧ w.grownBy w' (some g) := by
  obtain ⟨xs, hxs⟩ : ∃ xs, xs = zs.map (Value.int .i64) := ⟨_, rfl⟩
  have hxl : xs.length = zs.length := by rw [hxs]; simp
  obtain ⟨n, hn⟩ : ∃ n, zs.length = n := ⟨_, rfl⟩
  rw [← hxs] at hown
  have HStr := Lib.hid (show ∀ k, k < n → ∃ s : Int, xs[k]? = some (.int .i64 s) from fun k hk => by
    rw [hxs, List.getElem?_map, List.getElem?_eq_getElem (by omega)]
    exact ⟨_, rfl⟩)
  clear hxs
  rw [hn] at hown hxl h2 ⊢
  clear hn
  go_enter Try.func16, Try.ntmps16
  go_wp2_with fail
  go_loopw [1, 5] (fun c i wr => ∃ k : Nat, k ≤ n ∧ i = .int .i64 k ∧ c = .int .i64 (K + k : Nat) ∧ wr.ownsRow base 3 1 (.slice (some ⟨g, 0, none⟩) n cap) n (part K k xs) ∧ w.grownBy wr (some g)) (fun _ i _ => n - (intOf i).toNat)
  case atStart => exact ⟨0, Nat.zero_le _, rfl, rfl, hown, World.grownBy.refl _ _⟩
  case round =>
    obtain ⟨k, hk, rfl, rfl, ho, hg⟩ := hrel
    have HG := Lib.hid hg
    clear hg hown
    by_cases hlt : k < n
    · obtain ⟨s0, hs0⟩ := HStr.out k hlt
      have hcell : wr.cell? ⟨g, k, none⟩ = some (.int .i64 s0) := by rw [ho.cellAt k (by omega), part_at K n k xs hxl hlt, hs0]
      have hfro := ho.frozenAt k
      have hst := ho.stored k (.int .i64 ((K + k : Nat) : Int))
      rw [part_succ K n k xs hxl hlt] at hst
      have HST := Lib.hid hst
      clear hst ho hs0
      go_wp2_with fail
      go_roundw
      case rel => exact ⟨k + 1, by omega, by go_num, by go_num, by simpa using HST.out.1, by simpa using World.grownBy.trans HG.out HST.out.2⟩
      case measure => simp [intOf]; omega
    · obtain rfl : k = n := by omega
      have HO := Lib.hid (show wr.ownsRow base 3 1 (.slice (some ⟨g, 0, none⟩) k cap) k ((marks K k).map (Value.int .i64)) by
        have e : part K k xs = (marks K k).map (Value.int .i64) := by unfold part; rw [List.drop_of_length_le (by omega)]; simp
        rw [← e]; exact ho)
      clear ho
      go_wp2_with fail
      go_ret
      exact ⟨rfl, HO.out, HG.out⟩

/-- What marking a slice of the call's own leaves. -/
def Marked (lo hi : Nat) (v : Value) (n K : Nat) (w : World) (e : Ending) (w' : World) : Prop :=
  e = .returned (.int .i64 (K + n : Nat)) ∧ OwnI lo hi w' v (marks K n) ∧ (∀ row, v.ownBlock = row → w.grownBy w' row)

theorem mark_any (lo hi : Nat) (a : Option Addr) (c : Nat) (zs : List Int) (K : Nat) (w : World) (h : OwnI lo hi w (.slice a zs.length c) zs) (h2 : K + zs.length ≤ 4611686018427387904) :
    Calls Try.prog 16 #[.slice a zs.length c, .int .i64 K] w (Marked lo hi (.slice a zs.length c) zs.length K w) := by
  have hc := h
  rcases h.1.2 with ⟨hv, h0⟩ | ⟨g, cap, cur, hv, hl, hh, hr⟩
  · have hz : zs = [] := List.length_eq_zero_iff.1 h0
    subst hz
    simp only [List.length_nil] at hv ⊢
    cases hv
    go_enter Try.func16, Try.ntmps16
    go_wp2_with fail
    refine wp_loop_rounds 1 ?_
    rw [rounds_succ]
    go_wp2_with fail
    go_ret
    exact ⟨by simp, OwnI.nil _ _ _, fun row _ => World.grownBy.refl _ _⟩
  · cases hv
    refine (mark_row lo g c zs K w h.1 h2).mono ?_
    rintro e w' ⟨rfl, ho, hg⟩
    refine ⟨rfl, ⟨by rw [marks_length]; exact ho, hc.2⟩, fun row e => ?_⟩
    subst e
    exact hg

set_option maxHeartbeats 1000000 in
theorem held_any (a : Option Addr) (c n K : Nat) (w : World) (hr : ints.Reads .i64 w a (marks K n)) (h2 : K + n ≤ 4611686018427387904) :
    Calls Try.prog 17 #[.slice a n c, .int .i64 K] w fun e w' => e = .returned (.int .i64 (K + n : Nat)) ∧ Below w.heap.size w w' := by
  go_enter Try.func17, Try.ntmps17
  go_wp2_with fail
  go_loopw [1, 5] (fun q i wr => ∃ k : Nat, k ≤ n ∧ i = .int .i64 k ∧ q = .int .i64 (K + k : Nat) ∧ Below w.heap.size w wr) (fun _ i _ => n - (intOf i).toNat)
  case atStart => exact ⟨0, Nat.zero_le _, rfl, rfl, Below.refl _ _⟩
  case round =>
    obtain ⟨k, hk, rfl, rfl, hb⟩ := hrel
    have HB := Lib.hid hb
    by_cases hlt : k < n
    · obtain ⟨g, off, rfl, hg, hcell⟩ := (hr.below hb).at (k := k) (by rw [marks_length]; exact hlt)
      rw [marks_getD K n k hlt] at hcell
      clear hb
      go_wp2_with fail
      go_roundw
      case rel => exact ⟨k + 1, by omega, by go_num, by go_num, HB.out⟩
      case measure => simp [intOf]; omega
    · obtain rfl : k = n := by omega
      clear hb
      go_wp2_with fail
      go_ret
      exact ⟨rfl, HB.out⟩
end Go.Proofs.Ytkbcofgigfnfaab.intfns
