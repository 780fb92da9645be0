/- The walks of the laws' own helpers on lists of strings: szStringS, toStringS, eqStringS. -/
import Derived.Test.YtocjedheimhfoaaRows
import Derived.Test.YtocjedheimhfoaaStrs
import Derived.WalkSpells
import Derived.WalkLawsBesides
import Derived.Outline
import Derived.Deep.QuietTactic
import Derived.BigQuiet
namespace Go.Proofs.Ytocjedheimhfoaa.strfns
open Go.RowKit
set_option linter.unusedVariables false

set_option maxHeartbeats 400000 in
theorem sz_yes (a : Option Addr) (ss : List ByteArray) (c : Nat) (left : Int) (w : World) (hr : strs.Reads w a ss)
    (h0 : (ss.length : Int) + (strs.tot ss : Int) ≤ left) (h1 : left ≤ 1048576) :
    Calls Try.prog 21 #[.slice a ss.length c, .int .i64 left] w fun e w' => e = .returned (.int .i64 (left - ss.length - strs.tot ss)) ∧ w = w' := by
  go_enter Try.func21, Try.ntmps21
  go_wp2
  go_loop [1, 5] (fun l i => ∃ k : Nat, k ≤ ss.length ∧ i = .int .i64 k ∧ l = .int .i64 (left - ss.length - strs.tot (ss.take k))) (fun _ i => ss.length - (intOf i).toNat)
  case atStart => exact ⟨0, Nat.zero_le _, rfl, by simp [strs.tot]⟩
  case round =>
    obtain ⟨k, hk, rfl, rfl⟩ := hrel
    by_cases hlt : k < ss.length
    · obtain ⟨b, off, rfl, hb, hc⟩ := hr.at hlt
      have HS := Lib.hid (strs.tot_take_succ ss k hlt)
      have hle := strs.tot_take_le ss (k + 1)
      rw [HS.out] at hle
      generalize hx : strs.tot (ss.take k) = x at *
      generalize hs : ss.getD k ByteArray.empty = s at *
      clear hx hs
      go_wp2
      go_round
      case rel => exact ⟨k + 1, by omega, by go_num, by rw [HS.out]; go_num⟩
      case measure => simp [intOf]; omega
    · have : k = ss.length := by omega
      subst this
      rw [strs.tot_all]
      go_wp2
      go_ret
      exact ⟨rfl, rfl⟩

set_option maxHeartbeats 400000 in
theorem sz_no (a : Option Addr) (ss : List ByteArray) (c : Nat) (left : Int) (w : World) (hr : strs.Reads w a ss) (hl : ss.length ≤ 9223372036854775807) (hs : ∀ s ∈ ss, s.size ≤ 9223372036854775807)
    (h0 : left < (ss.length : Int) + (strs.tot ss : Int)) (h1 : left ≤ 1048576) (h2 : 0 ≤ left) :
    Calls Try.prog 21 #[.slice a ss.length c, .int .i64 left] w fun e w' => e = .returned (.int .i64 (-1)) ∧ w = w' := by
  by_cases hn : left < (ss.length : Int)
  · go_enter Try.func21, Try.ntmps21
    go_wp2_with fail
    go_ret
    exact ⟨rfl, rfl⟩
  go_enter Try.func21, Try.ntmps21
  go_wp2
  go_loop [1, 5] (fun l i => ∃ k : Nat, k ≤ ss.length ∧ i = .int .i64 k ∧ l = .int .i64 (left - ss.length - strs.tot (ss.take k)) ∧ (strs.tot (ss.take k) : Int) ≤ left - ss.length) (fun _ i => ss.length - (intOf i).toNat)
  case atStart => exact ⟨0, Nat.zero_le _, rfl, by simp [strs.tot], by simp [strs.tot]; omega⟩
  case round =>
    obtain ⟨k, hk, rfl, rfl, hx0⟩ := hrel
    by_cases hlt : k < ss.length
    · obtain ⟨b, off, rfl, hb, hc⟩ := hr.at hlt
      have HS := Lib.hid (strs.tot_take_succ ss k hlt)
      have hsz : (ss.getD k ByteArray.empty).size ≤ 9223372036854775807 := hs _ (by rw [List.getD_eq_getElem?_getD, List.getElem?_eq_getElem hlt]; simp)
      generalize hx : strs.tot (ss.take k) = x at *
      generalize hs' : ss.getD k ByteArray.empty = s at *
      clear hx hs' hs
      by_cases hlong : left - ss.length - (x : Int) - (s.size : Int) < 0
      · go_wp2
        go_ret
        exact ⟨rfl, rfl⟩
      · go_wp2
        go_round
        case rel => exact ⟨k + 1, by omega, by go_num, by rw [HS.out]; go_num, by rw [HS.out]; omega⟩
        case measure => simp [intOf]; omega
    · have : k = ss.length := by omega
      subst this
      rw [strs.tot_all] at hx0
      omega

theorem infoStr : (Try.prog.info? 9).map (fun i => (i.zero, i.size, i.bytes)) = some (some (.string ByteArray.empty), 1, 16) := by kernel_rfl

set_option maxHeartbeats 800000 in
theorem to_any (a : Option Addr) (ss : List ByteArray) (c : Nat) (w : World) (hr : strs.Reads w a ss) (hn : ss.length ≤ 1048576) :
    Calls Try.prog 22 #[.slice a ss.length c] w fun e w' => e = .returned (.slice (some ⟨w.heap.size, 0, none⟩) ss.length ss.length) ∧
      w'.ownsRow w.heap.size 9 1 (.slice (some ⟨w.heap.size, 0, none⟩) ss.length ss.length) ss.length (ss.map Value.string) ∧ Below w.heap.size w w' := by
  obtain ⟨i0, hi, hz0, hz1, hz2⟩ := info_parts infoStr
  go_enter Try.func22, Try.ntmps22
  go_wp2_with (refine wpList_make_full _ rfl _ _ 26 rfl w.heap.size 9 i0 (.string ByteArray.empty) 1 Try.underlying26 hi hz0 hz1 .i64 .i64 _ _ ss.length rfl rfl rfl rfl (by rw [hz2]; omega) (by unfold maxLen; omega) (Nat.le_refl _) ?_; intro w1 hown1 hgrow1; refine Hid.out ?_)
  refine Lib.hid ?_
  have hb1 : Below w.heap.size w w1 := (Below.refl _ _).grown hgrow1 (Nat.le_refl _) (by simp)
  rw [show (Value.string ByteArray.empty).cells = #[Value.string ByteArray.empty] from rfl, Nat.mul_one, toList_madeCells_one, ← strs.filled_zero] at hown1
  go_wp2
  go_loopw [4] (fun i wr => ∃ k : Nat, k ≤ ss.length ∧ i = .int .i64 k ∧ wr.ownsRow w.heap.size 9 1 (.slice (some ⟨w.heap.size, 0, none⟩) ss.length ss.length) ss.length (strs.filled ss k) ∧ Below w.heap.size w wr) (fun i _ => ss.length - (intOf i).toNat)
  case atStart => exact ⟨0, Nat.zero_le _, rfl, hown1, hb1⟩
  case round =>
    obtain ⟨k, hk, rfl, hown, hbel⟩ := hrel
    clear hown1 hgrow1 hb1
    by_cases hlt : k < ss.length
    · obtain ⟨b, off, rfl, hb, hc⟩ := (hr.below hbel).at hlt
      have hcell : wr.cell? ⟨w.heap.size, k, none⟩ = some (.string ByteArray.empty) := by rw [hown.cellAt k (by omega), strs.filled_at ss k hlt]
      have hfro := hown.frozenAt k
      have hst := hown.stored k (.string (ss.getD k ByteArray.empty))
      rw [strs.filled_succ ss k hlt] at hst
      have HS := Lib.hid hst
      have HB := Lib.hid hbel
      clear hst hown hbel
      generalize hs : ss.getD k ByteArray.empty = s at *
      clear hs
      go_wp2
      go_roundw
      case rel => exact ⟨k + 1, by omega, by go_num, HS.out.1, HB.out.setCell (Nat.le_refl _) _⟩
      case measure => simp [intOf]; omega
    · have : k = ss.length := by omega
      subst this
      rw [strs.filled_all] at hown
      have HO := Lib.hid hown
      have HB := Lib.hid hbel
      clear hown hbel
      go_wp2
      go_ret
      exact ⟨rfl, HO.out, HB.out⟩

theorem below_drewN {w wr : World} (h : Below w.heap.size w wr) (n : Nat) : Below w.heap.size w (wr.drewN n) := ⟨h.os, h.tape, h.output, h.size, h.block⟩

set_option maxHeartbeats 800000 in
theorem eq_same (a a' : Option Addr) (ss : List ByteArray) (c c' : Nat) (w : World) (hr : strs.Reads w a ss) (hr' : strs.Reads w a' ss) (hn : ss.length ≤ 1048576) :
    Calls Try.prog 18 #[.slice a ss.length c, .slice a' ss.length c'] w fun e w' => e = .returned (.bool true) ∧ Below w.heap.size w w' := by
  go_enter Try.func18, Try.ntmps18
  go_wp2
  go_loopw [5] (fun i wr => ∃ k : Nat, k ≤ ss.length ∧ i = .int .i64 k ∧ Below w.heap.size w wr) (fun i _ => ss.length - (intOf i).toNat)
  case atStart => exact ⟨0, Nat.zero_le _, rfl, Below.refl _ _⟩
  case round =>
    obtain ⟨k, hk, rfl, hbel⟩ := hrel
    by_cases hlt : k < ss.length
    · obtain ⟨b, off, rfl, hb, hc⟩ := (hr.below hbel).at hlt
      obtain ⟨b', off', rfl, hb', hc'⟩ := (hr'.below hbel).at hlt
      have HB := Lib.hid hbel
      clear hbel
      generalize hs : ss.getD k ByteArray.empty = s at *
      clear hs
      go_wp2
      go_quiet (fail)
      go_wp2
      go_roundw
      case rel => exact ⟨k + 1, by omega, by go_num, below_drewN HB.out _⟩
      case measure => simp [intOf]; omega
    · have HB := Lib.hid hbel
      clear hbel
      go_wp2
      go_ret
      exact ⟨rfl, HB.out⟩
end Go.Proofs.Ytocjedheimhfoaa.strfns
