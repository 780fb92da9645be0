/- The walks of the laws' own helpers that write marks into a list of strings and look for them again. -/
import Derived.Test.YtocjedheimhfoaaRows
import Derived.Test.YtocjedheimhfoaaStrs
import Derived.WalkSpells
import Derived.WalkLawsBesides
import Derived.Outline
import Derived.Lib.ItoaNum
import Derived.Lib.ItoaLen
import Derived.Laws.IdiomStrings
import Derived.ProofKit
import Derived.Deep.QuietTactic
import Derived.BigQuiet
import Derived.Deep.RegionHeld3
import Derived.Maps.AppendAt
namespace Go.Proofs.Ytocjedheimhfoaa.marks
open Go.RowKit
set_option linter.unusedVariables false

def mt (k : Nat) : ByteArray := ⟨(109 :: Lib.decDigits k).toArray⟩

theorem back_one (w : World) (x : Int) (c : UInt8) (h : x = (c.toNat : Int)) :
    (convert 22 9 (.slice (some ⟨w.heap.size, 0, none⟩) 1 1)).run Try.prog (w.alloc (.cells #[.int .u8 x] 5)) = .ok (.string ⟨#[c]⟩) (w.alloc (.cells #[.int .u8 x] 5)) := by
  subst h
  have := run_convert_bytes_back (P := Try.prog) (w.alloc (.cells #[.int .u8 c.toNat] 5)) 22 9 5 ⟨w.heap.size, 0, none⟩ 1 [c] Try.underlying22 Try.underlying5 Try.underlying9 (fun j hj => by
    have : j = 0 := by simpa using hj
    subst this
    rw [Go.WideShapes.add_plain]
    have hh : (w.alloc (.cells #[.int .u8 c.toNat] 5)).heap[w.heap.size]? = some (.cells #[.int .u8 c.toNat] 5 (0, 0)) := heap_alloc_new w _
    unfold World.cell?
    rw [hh]
    rfl)
  exact this

theorem dig_small {k : Nat} (h : k < 10) : Lib.decDigits k = [UInt8.ofNat (48 + k % 10)] := by rw [Lib.decDigits_one h, Nat.mod_eq_of_lt h]
theorem dig_big {k : Nat} (h : ¬ k < 10) : Lib.decDigits k = Lib.decDigits (k / 10) ++ [UInt8.ofNat (48 + k % 10)] := by rw [Lib.decDigits.eq_1 k, dif_neg h]

set_option maxHeartbeats 1000000 in
theorem text_any (K : Nat) (w : World) (h1 : 1 ≤ K) (h2 : K ≤ 1000000) :
    Calls Try.prog 34 #[.int .i64 K] w fun e w' => e = .returned (.string (mt K)) ∧ Below w.heap.size w w' := by
  go_enter Try.func34, Try.ntmps34
  go_wp2_with fail
  go_loopw [0, 3] (fun n o wr => ∃ (k : Nat) (out : ByteArray), k ≤ K ∧ n = .int .i64 k ∧ o = .string out ∧ out.size ≤ 20 ∧ (k = 0 → out.data.toList = Lib.decDigits K) ∧ (0 < k → Lib.decDigits k ++ out.data.toList = Lib.decDigits K) ∧ Below w.heap.size w wr) (fun n _ _ => (intOf n).toNat)
  case atStart => exact ⟨K, ByteArray.empty, Nat.le_refl _, rfl, rfl, Nat.zero_le _, fun h => by omega, fun _ => by simp, Below.refl _ _⟩
  case round =>
    obtain ⟨k, out, hk, rfl, rfl, hsz, hz, hp, hbel⟩ := hrel
    have HZ := Lib.hid hz
    have HP := Lib.hid hp
    have HB := Lib.hid hbel
    have hwz := hbel.size
    clear hz hp hbel
    have hlen : (Lib.decDigits K).length ≤ 20 := by rw [Lib.decDigits_length]; exact Lib.nDigits_le20 K (by omega)
    by_cases hlt : 0 < k
    · obtain ⟨c, hc⟩ : ∃ c : UInt8, c = UInt8.ofNat (48 + k % 10) := ⟨_, rfl⟩
      have hcn : (48 + (k : Int) % 10) = (c.toNat : Int) := by
        rw [hc, UInt8.toNat_ofNat']
        omega
      have hk0 := back_one wr (48 + (k : Int) % 10) c hcn
      have HC := Lib.hid hc
      clear hc hcn
      have hsum : ¬ 9223372036854775807 < (ByteArray.mk #[c]).size + out.size := by show ¬ 9223372036854775807 < 1 + out.size; omega
      have HL : Hid ((k < 10 → Lib.decDigits k = [c]) ∧ (¬ k < 10 → Lib.decDigits k = Lib.decDigits (k / 10) ++ [c])) := Lib.hid ⟨fun h => by rw [dig_small h, HC.out], fun h => by rw [dig_big h, HC.out]⟩
      have HA := Lib.hid (show (ByteArray.mk #[c] ++ out).data.toList = c :: out.data.toList by simp)
      have hos : out.size + 1 ≤ 20 := by
        have e := congrArg List.length (HP.out hlt)
        rw [List.length_append] at e
        have e2 : out.data.toList.length = out.size := by simp
        have e3 : 0 < (Lib.decDigits k).length := by rw [Lib.decDigits_length]; exact Lib.nDigits_pos k
        omega
      go_wp2_with fail
      go_roundw
      case rel =>
        refine ⟨k / 10, _, by omega, by go_num, rfl, ?_, fun h => ?_, fun h => ?_, HB.out.alloc hwz _⟩
        · rw [ByteArray.size_append]; show 1 + out.size ≤ 20; omega
        · rw [HA.out, ← HP.out hlt, HL.out.1 (by omega)]; rfl
        · rw [HA.out, ← HP.out hlt, HL.out.2 (by omega), List.append_assoc]; rfl
      case measure => simp [intOf]; omega
    · obtain rfl : k = 0 := by omega
      go_wp2_with fail
      go_ret
      refine ⟨?_, HB.out⟩
      have e : (ByteArray.mk #[109] ++ out) = mt K := by
        apply ByteArray.ext
        apply Array.ext'
        rw [show (ByteArray.mk #[109] ++ out).data.toList = 109 :: out.data.toList by simp, HZ.out (by trivial)]
        simp [mt]
      rw [← e]
      rfl

/-- The marks from a number on. -/
def row (K n : Nat) : List ByteArray := (List.range n).map fun i => mt (K + i)

/-- Some marks, then what was there. -/
def part (K n k : Nat) (xs : List Value) : List Value := ((row K k).map Value.string) ++ xs.drop k

theorem row_length (K n : Nat) : (row K n).length = n := by simp [row]
theorem row_succ (K n : Nat) : row K (n + 1) = row K n ++ [mt (K + n)] := by simp [row, List.range_succ]

theorem part_succ (K n k : Nat) (xs : List Value) (hx : xs.length = n) (hk : k < n) : (part K n k xs).set k (.string (mt (K + k))) = part K n (k + 1) xs := by
  unfold part
  rw [List.set_append, if_neg (by simp [row_length]), row_succ, List.map_append, List.append_assoc]
  congr 1
  rw [List.length_map, row_length, Nat.sub_self, List.drop_eq_getElem_cons (by omega)]
  rfl

theorem part_at (K n k : Nat) (xs : List Value) (hx : xs.length = n) (hk : k < n) : (part K n k xs)[k]? = xs[k]? := by
  unfold part
  rw [List.getElem?_append_right (by simp [row_length]), List.length_map, row_length, Nat.sub_self, List.getElem?_drop, Nat.add_zero]

set_option maxHeartbeats 1000000 in
theorem mark_any (base g cap : Nat) (ss : List ByteArray) (K : Nat) (w : World) (hown : w.ownsRow base 9 1 (.slice (some ⟨g, 0, none⟩) ss.length cap) ss.length (ss.map Value.string)) (h1 : 1 ≤ K) (h2 : K + ss.length ≤ 1000000) :
    Calls Try.prog 19 #[.slice (some ⟨g, 0, none⟩) ss.length cap, .int .i64 K] w fun e w' => e = .returned (.int .i64 (K + ss.length : Nat)) ∧
      w'.ownsRow base 9 1 (.slice (some ⟨g, 0, none⟩) ss.length cap) ss.length ((row K ss.length).map Value.string) ∧ w.grownBy w' (some g) := by
  obtain ⟨xs, hxs⟩ : ∃ xs, xs = ss.map Value.string := ⟨_, rfl⟩
  have hxl : xs.length = ss.length := by rw [hxs]; simp
  obtain ⟨n, hn⟩ : ∃ n, ss.length = n := ⟨_, rfl⟩
  rw [← hxs] at hown
  have HStr := Lib.hid (show ∀ k, k < n → ∃ s : ByteArray, xs[k]? = some (.string s) from fun k hk => by
    rw [hxs, List.getElem?_map, List.getElem?_eq_getElem (by omega)]
    exact ⟨_, rfl⟩)
  clear hxs
  rw [hn] at hown hxl h2 ⊢
  clear hn
  go_enter Try.func19, Try.ntmps19
  go_wp2_with fail
  go_loopw [1, 5] (fun c i wr => ∃ k : Nat, k ≤ n ∧ i = .int .i64 k ∧ c = .int .i64 (K + k : Nat) ∧ wr.ownsRow base 9 1 (.slice (some ⟨g, 0, none⟩) n cap) n (part K n k xs) ∧ w.grownBy wr (some g)) (fun _ i _ => n - (intOf i).toNat)
  case atStart => exact ⟨0, Nat.zero_le _, rfl, rfl, hown, World.grownBy.refl _ _⟩
  case round =>
    obtain ⟨k, hk, rfl, rfl, ho, hg⟩ := hrel
    have HG := Lib.hid hg
    clear hg hown
    by_cases hlt : k < n
    · have HO := Lib.hid ho
      clear ho
      go_wp2_with fail
      refine (text_any (K + k) wr (by omega) (by omega)).mono ?_
      rintro e w1 ⟨rfl, hb⟩
      have ho1 : w1.ownsRow base 9 1 (.slice (some ⟨g, 0, none⟩) n cap) n (part K n k xs) := HO.out.kept ⟨hb.os, hb.tape, hb.output, hb.size, fun j hj _ => hb.block j hj⟩ (row := none) (.inr (by simp [Value.ownBlock]))
      obtain ⟨s0, hs0⟩ := HStr.out k hlt
      have hcell : w1.cell? ⟨g, k, none⟩ = some (.string s0) := by rw [ho1.cellAt k (by omega), part_at K n k xs hxl hlt, hs0]
      have hfro := ho1.frozenAt k
      have hst := ho1.stored k (.string (mt (K + k)))
      rw [part_succ K n k xs hxl hlt] at hst
      have HST := Lib.hid hst
      have HG1 := Lib.hid (World.grownBy.trans (HG.out) (⟨hb.os, hb.tape, hb.output, hb.size, fun j hj _ => hb.block j hj⟩ : wr.grownBy w1 (some g)))
      clear hst ho1 hb hs0
      go_wp2_with fail
      go_roundw
      case rel => exact ⟨k + 1, by omega, by go_num, by go_num, HST.out.1, World.grownBy.trans HG1.out HST.out.2⟩
      case measure => simp [intOf]; omega
    · obtain rfl : k = n := by omega
      have HO := Lib.hid (show wr.ownsRow base 9 1 (.slice (some ⟨g, 0, none⟩) k cap) k ((row K k).map Value.string) by
        have e : part K k k xs = (row K k).map Value.string := by unfold part; rw [List.drop_of_length_le (by omega)]; simp
        rw [← e]; exact ho)
      clear ho
      go_wp2_with fail
      go_ret
      exact ⟨rfl, HO.out, HG.out⟩

theorem held_step {g k : Nat} {x : Value} {wr wa wb : World} (hg : g < wr.heap.size) (hb : Below wa.heap.size wa wb) (hS : wa.cell? ⟨g, k, none⟩ = some x ∧ Below wr.heap.size wr wa) : wb.cell? ⟨g, k, none⟩ = some x ∧ Below wr.heap.size wr wb :=
  ⟨(hb.cell (p := ⟨g, k, none⟩) (Nat.lt_of_lt_of_le hg hS.2.size)).trans hS.1, hS.2.trans (hb.mono hS.2.size)⟩

theorem below_fin {g o : Nat} {x : Value} {w wr wa : World} (hB : Below w.heap.size w wr) (h : wa.cell? ⟨g, o, none⟩ = some x ∧ Below wr.heap.size wr wa) : Below w.heap.size w wa := hB.trans (h.2.mono hB.size)

theorem row_getD (K n k : Nat) (h : k < n) : (row K n).getD k ByteArray.empty = mt (K + k) := by
  rw [List.getD_eq_getElem?_getD]
  simp [row, h]

set_option maxHeartbeats 2000000 in
theorem held_any (a : Option Addr) (c n K : Nat) (w : World) (hr : strs.Reads w a (row K n)) (h1 : 1 ≤ K) (h2 : K + n ≤ 1000000) :
    Calls Try.prog 20 #[.slice a n c, .int .i64 K] w fun e w' => e = .returned (.int .i64 (K + n : Nat)) ∧ Below w.heap.size w w' := by
  go_enter Try.func20, Try.ntmps20
  go_wp2_with fail
  go_loopw [1, 5] (fun q i wr => ∃ k : Nat, k ≤ n ∧ i = .int .i64 k ∧ q = .int .i64 (K + k : Nat) ∧ Below w.heap.size w wr) (fun _ i _ => n - (intOf i).toNat)
  case atStart => exact ⟨0, Nat.zero_le _, rfl, rfl, Below.refl _ _⟩
  case round =>
    obtain ⟨k, hk, rfl, rfl, hb⟩ := hrel
    have HB := Lib.hid hb
    by_cases hlt : k < n
    · obtain ⟨g, off, rfl, hg, hcell⟩ := (hr.below hb).at (k := k) (by rw [row_length]; exact hlt)
      rw [row_getD K n k hlt] at hcell
      clear hb
      obtain ⟨x, hx⟩ : ∃ x, mt (K + k) = x := ⟨_, rfl⟩
      have HT := Lib.hid (show ∀ wa : World, (wa.cell? ⟨g, off + k, none⟩ = some (.string x) ∧ Below wr.heap.size wr wa) → Calls Try.prog 34 #[.int .i64 (K + k : Nat)] wa fun e w' => e = .returned (.string x) ∧ (w'.cell? ⟨g, off + k, none⟩ = some (.string x) ∧ Below wr.heap.size wr w') from fun wa hS => by
        rw [← hx] at hS ⊢
        exact (text_any (K + k) wa (by omega) (by omega)).mono fun _ _ ⟨he, hb⟩ => ⟨he, held_step hg hb hS⟩)
      rw [hx] at hcell
      clear hx
      go_wp2_with fail
      go_region_held3 (fun w' => w'.cell? ⟨g, off + k, none⟩ = some (.string x) ∧ Below wr.heap.size wr w')
        (first | assumption | exact ⟨hcell, Below.refl _ _⟩ | exact ⟨hcell, (Below.refl _ _).drew⟩)
        (first | (go_at_call 34; refine Calls.mono (HT.out _ ?_) ?_; assumption; rintro e w' ⟨rfl, hbx⟩))
      go_wp2_with fail
      go_roundw
      case rel =>
        refine ⟨k + 1, by omega, by go_num, by go_num, ?_⟩
        refine below_fin (g := g) (o := off + k) (x := .string x) HB.out ?_
        assumption
      case measure => simp [intOf]; omega
    · obtain rfl : k = n := by omega
      clear hb
      go_wp2_with fail
      go_ret
      exact ⟨rfl, HB.out⟩
end Go.Proofs.Ytocjedheimhfoaa.marks
