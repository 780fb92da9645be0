/- The walk of spec.l1Num: it returns the decimal text of its number; no condition but the number's range. -/
import Derived.Test.YtocjedheimhfoaaDoorRows
import Derived.WalkKit
import Derived.WalkSpells
import Derived.WalkLawsBesides
import Derived.Outline
import Derived.Lib.Hide
import Derived.Lib.ItoaNum
import Derived.Lib.ItoaLen
import Derived.Deep.QuietTactic
import Derived.BigQuiet
namespace Go.Proofs.YtocjedheimhfoaaDoor.num
open Go.RowKit
set_option linter.unusedVariables false

theorem below_drewN {B : Nat} {w wr : World} (h : Below B w wr) (n : Nat) : Below B w (wr.drewN n) := ⟨h.os, h.tape, h.output, h.size, h.block⟩

def txt (l : List UInt8) : ByteArray := ⟨l.toArray⟩

/-- one digit, as the slice of the ten digits has it -/
theorem digit_piece : ∀ i : Fin 10, (ByteArray.mk #[48, 49, 50, 51, 52, 53, 54, 55, 56, 57]).extract i.val (i.val + 1) = txt [UInt8.ofNat (48 + i.val)] := by decide +kernel

theorem piece (n : Nat) (h : n < 10) : (ByteArray.mk #[48, 49, 50, 51, 52, 53, 54, 55, 56, 57]).extract n (n + 1) = txt [UInt8.ofNat (48 + n)] := digit_piece ⟨n, h⟩

theorem ret_str {a b : ByteArray} (h : a = b) : Ending.returned (.string a) = .returned (.string b) := by rw [h]

theorem size_txt (l : List UInt8) : (txt l).size = l.length := by show l.toArray.size = _; simp

theorem txt_append (a b : List UInt8) : txt a ++ txt b = txt (a ++ b) := by
  apply ByteArray.ext
  simp [txt]

theorem digits_le (n : Nat) (h : n ≤ 9223372036854775807) : (Lib.decDigits n).length ≤ 20 := by
  rw [Lib.decDigits_length]
  exact Lib.nDigits_le20 n (by omega)

set_option maxHeartbeats 400000 in
theorem small_any (z : Int) (w : World) (h0 : 0 ≤ z) (h : z < 10) :
    Calls Tryd.prog 25 #[.int .i64 z] w fun e w' => e = .returned (.string (txt (Lib.decDigits z.toNat))) ∧ ∃ k, w' = w.drewN k := by
  obtain ⟨n, rfl⟩ := Int.eq_ofNat_of_zero_le h0
  have HP := Lib.hid (piece n (by omega))
  go_enter Tryd.func25, Tryd.ntmps25
  go_wp2_with fail
  go_ret
  refine ⟨ret_str ?_, 0, rfl⟩
  rw [Lib.decDigits_one (by simp; omega)]
  exact HP.out

set_option maxHeartbeats 400000 in
theorem step_any (z : Int) (w : World) (h : 10 ≤ z) (h1 : z ≤ 9223372036854775807) (t : ByteArray) (ht : t.size ≤ 20)
    (ih : Hid (∀ w, Calls Tryd.prog 25 #[.int .i64 (z / 10)] w fun e w' => e = .returned (.string t) ∧ ∃ k, w' = w.drewN k)) :
    Calls Tryd.prog 25 #[.int .i64 z] w fun e w' => e = .returned (.string (t ++ txt [UInt8.ofNat (48 + (z % 10).toNat)])) ∧ ∃ k, w' = w.drewN k := by
  have HP := Lib.hid (piece (z % 10).toNat (by omega))
  have hm0 : 0 ≤ z % 10 := by omega
  have hm1 : z % 10 < 10 := by omega
  go_enter Tryd.func25, Tryd.ntmps25
  go_wp2_with fail
  go_quiet ((go_at_call 25; exact Calls.quiet_of (ih.out _)))
  go_wp2_with fail
  go_ret
  refine ⟨ret_str ?_, _, rfl⟩
  have e : (z % 10 + 1).toNat = (z % 10).toNat + 1 := by omega
  rw [← HP.out]
  simp only [e]

theorem nat_any : ∀ (f : Nat) (z : Int) (w : World), 0 ≤ z → z < 10 ^ (f + 1) → z ≤ 9223372036854775807 →
    Calls Tryd.prog 25 #[.int .i64 z] w fun e w' => e = .returned (.string (txt (Lib.decDigits z.toNat))) ∧ ∃ k, w' = w.drewN k := by
  intro f
  induction f with
  | zero => intro z w h0 h1 _; exact small_any z w h0 (by simpa using h1)
  | succ f ih =>
    intro z w h0 h1 h2
    by_cases h : z < 10
    · exact small_any z w h0 h
    · have hp : (10 : Int) ^ (f + 1 + 1) = 10 * 10 ^ (f + 1) := by rw [Int.pow_succ, Int.mul_comm]
      have hd : z / 10 < 10 ^ (f + 1) := by rw [hp] at h1; omega
      have hs := step_any z w (by omega) h2 (txt (Lib.decDigits (z / 10).toNat)) (by rw [size_txt]; exact digits_le _ (by omega)) (Lib.hid fun w => ih (z / 10) w (by omega) hd (by omega))
      refine hs.mono fun e w' ⟨he, hk⟩ => ⟨?_, hk⟩
      rw [he, txt_append, Lib.decDigits.eq_1 z.toNat, dif_neg (by omega)]
      rw [show (z / 10).toNat = z.toNat / 10 by omega, show (z % 10).toNat = z.toNat % 10 by omega]

/-- The decimal text of a number. -/
theorem pos_any (z : Int) (w : World) (h0 : 0 ≤ z) (h2 : z ≤ 9223372036854775807) :
    Calls Tryd.prog 25 #[.int .i64 z] w fun e w' => e = .returned (.string (txt (Lib.decDigits z.toNat))) ∧ ∃ k, w' = w.drewN k :=
  nat_any 18 z w h0 (by omega) h2

set_option maxHeartbeats 400000 in
theorem neg_any (z : Int) (w : World) (h0 : z < 0) (h2 : -9223372036854775807 ≤ z) :
    Calls Tryd.prog 25 #[.int .i64 z] w fun e w' => e = .returned (.string (txt (45 :: Lib.decDigits z.natAbs))) ∧ ∃ k, w' = w.drewN k := by
  obtain ⟨t, ht⟩ : ∃ t, t = txt (Lib.decDigits (-z).toNat) := ⟨_, rfl⟩
  have hts : t.size ≤ 20 := by rw [ht, size_txt]; exact digits_le _ (by omega)
  have IH := Lib.hid (show ∀ w, Calls Tryd.prog 25 #[.int .i64 (-z)] w fun e w' => e = .returned (.string t) ∧ ∃ k, w' = w.drewN k from fun w => by rw [ht]; exact pos_any (-z) w (by omega) (by omega))
  have HT := Lib.hid ht
  clear ht
  go_enter Tryd.func25, Tryd.ntmps25
  go_wp2_with (go_at_call 25; refine (IH.out _).mono ?_; rintro e w' ⟨rfl, k, rfl⟩)
  go_ret
  refine ⟨ret_str ?_, _, rfl⟩
  have e1 := HT.out
  rw [e1, show ByteArray.mk #[45] = txt [45] from rfl, txt_append, show (-z).toNat = z.natAbs by omega]
  rfl

theorem any (z : Int) (w : World) (h0 : -9223372036854775807 ≤ z) (h2 : z ≤ 9223372036854775807) :
    Calls Tryd.prog 25 #[.int .i64 z] w fun e w' => e = .returned (.string (txt (Lib.itoa z))) ∧ ∃ k, w' = w.drewN k := by
  unfold Lib.itoa
  by_cases h : z < 0
  · rw [if_pos h]; exact neg_any z w h h0
  · rw [if_neg h]; exact pos_any z w (by omega) h2
end Go.Proofs.YtocjedheimhfoaaDoor.num
