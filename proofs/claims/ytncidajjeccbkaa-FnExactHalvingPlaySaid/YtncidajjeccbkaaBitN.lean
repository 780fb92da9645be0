/- Bitwise operations of numbers that are not negative: plain lemmas on the model's operations; no condition. -/
import Derived.Test.YtncidajjeccbkaaOwn
import Derived.Laws.Bits64
namespace Go.Proofs.Ytncidajjeccbkaa.bitn
open Go

theorem wrap64 (n : Nat) (h : n < 4294967296) : IntKind.i64.wrap (n : Int) = (n : Int) := by
  simp [IntKind.wrap, IntKind.bits, IntKind.signed]; omega
theorem ofInt64 (a : Nat) (ha : a < 4294967296) : (BitVec.ofInt 64 (a : Int)).toNat = a := by
  rw [BitVec.ofInt_natCast, BitVec.toNat_ofNat]; exact Nat.mod_eq_of_lt (by omega)
theorem and_nat (a b : Nat) (ha : a < 4294967296) (hb : b < 4294967296) : Go.bits .and .i64 (a : Int) (b : Int) = ((a &&& b : Nat) : Int) := by
  have hx : a &&& b < 2 ^ 32 := Nat.and_lt_two_pow a (by omega)
  show IntKind.i64.wrap ((BitVec.ofInt 64 (a : Int) &&& BitVec.ofInt 64 (b : Int)).toNat : Int) = _
  rw [BitVec.toNat_and, ofInt64 a ha, ofInt64 b hb, wrap64 _ (by omega)]
theorem or_nat (a b : Nat) (ha : a < 4294967296) (hb : b < 4294967296) : Go.bits .or .i64 (a : Int) (b : Int) = ((a ||| b : Nat) : Int) := by
  have hx : a ||| b < 2 ^ 32 := Nat.or_lt_two_pow (by omega) (by omega)
  show IntKind.i64.wrap ((BitVec.ofInt 64 (a : Int) ||| BitVec.ofInt 64 (b : Int)).toNat : Int) = _
  rw [BitVec.toNat_or, ofInt64 a ha, ofInt64 b hb, wrap64 _ (by omega)]
theorem xor_nat (a b : Nat) (ha : a < 4294967296) (hb : b < 4294967296) : Go.bits .xor .i64 (a : Int) (b : Int) = ((a ^^^ b : Nat) : Int) := by
  have hx : a ^^^ b < 2 ^ 32 := Nat.xor_lt_two_pow (by omega) (by omega)
  show IntKind.i64.wrap ((BitVec.ofInt 64 (a : Int) ^^^ BitVec.ofInt 64 (b : Int)).toNat : Int) = _
  rw [BitVec.toNat_xor, ofInt64 a ha, ofInt64 b hb, wrap64 _ (by omega)]
/-- The digit of 2 ^ i of k. -/
def dg (k i : Nat) : Nat := k / 2 ^ i % 2
theorem dg_le (k i : Nat) : dg k i ≤ 1 := by unfold dg; omega
theorem and_one (k : Nat) (hk : k < 4294967296) : Go.bits .and .i64 (k : Int) 1 = ((k % 2 : Nat) : Int) := by
  have := and_nat k 1 hk (by omega)
  rw [Nat.and_one_is_mod] at this
  exact this
theorem dg_at (k i : Nat) (hk : k < 4294967296) : Go.bits .and .i64 ((k : Int) / 2 ^ i) 1 = ((dg k i : Nat) : Int) := by
  have e : ((k : Int) / 2 ^ i) = ((k / 2 ^ i : Nat) : Int) := by simp
  rw [e]
  exact and_one _ (Nat.lt_of_le_of_lt (Nat.div_le_self _ _) hk)
theorem dg_bit (k i : Nat) : (dg k i = 1) ↔ k.testBit i = true := by
  unfold dg
  rw [Nat.testBit_eq_decide_div_mod_eq, decide_eq_true_eq]
/-- The set without a voter. -/
def off (k i : Nat) : Nat := if dg k i = 1 then k - 2 ^ i else k
/-- The set with a voter. -/
def onn (k i : Nat) : Nat := if dg k i = 1 then k else k + 2 ^ i
theorem off_tab : ∀ k : Fin 256, ∀ i : Fin 8, Go.bits .andNot .i64 ((k.val : Nat) : Int) ((2 ^ i.val : Nat) : Int) = ((off k.val i.val : Nat) : Int) := by decide +kernel
theorem onn_tab : ∀ k : Fin 256, ∀ i : Fin 8, k.val ||| 2 ^ i.val = onn k.val i.val ∧ (dg k.val i.val = 1 → k.val ^^^ 2 ^ i.val = off k.val i.val) ∧ (dg k.val i.val = 0 → k.val ^^^ 2 ^ i.val = onn k.val i.val) ∧ (dg k.val i.val = 1 → 2 ^ i.val ≤ k.val) := by decide +kernel
theorem off_at (k i : Nat) (hk : k < 256) (hi : i < 8) : Go.bits .andNot .i64 (k : Int) ((2 ^ i : Nat) : Int) = ((off k i : Nat) : Int) := off_tab ⟨k, hk⟩ ⟨i, hi⟩
theorem off_le (k i : Nat) : off k i ≤ k := by
  unfold off; split
  · exact Nat.sub_le _ _
  · exact Nat.le_refl _
theorem onn_at (k i : Nat) (hk : k < 256) (hi : i < 8) : k ||| 2 ^ i = onn k i := (onn_tab ⟨k, hk⟩ ⟨i, hi⟩).1
theorem xor_off (k i : Nat) (hk : k < 256) (hi : i < 8) (h : dg k i = 1) : k ^^^ 2 ^ i = off k i := (onn_tab ⟨k, hk⟩ ⟨i, hi⟩).2.1 h
theorem xor_onn (k i : Nat) (hk : k < 256) (hi : i < 8) (h : dg k i = 0) : k ^^^ 2 ^ i = onn k i := (onn_tab ⟨k, hk⟩ ⟨i, hi⟩).2.2.1 h
theorem onn_lt {n k i : Nat} (h8 : n ≤ 8) (hk : k < 2 ^ n) (hi : i < n) : onn k i < 2 ^ n := by
  have h1 := Nat.pow_le_pow_right (n := 2) (by omega) h8
  have h2 := onn_at k i (by omega) (by omega)
  rw [← h2]
  exact Nat.or_lt_two_pow hk (Nat.pow_lt_pow_right (by omega) hi)
end Go.Proofs.Ytncidajjeccbkaa.bitn
