/- The checksum as a plain function of a list of bytes, and its bounds: no condition. -/
import Derived.Lib.Hide
namespace Go.Proofs.YtocjedheimhfoaaDoor.psum

def step (h : Int) (c : UInt8) : Int := (41 * h + (c.toNat : Int) + 1) % 999979
def sum (l : List UInt8) : Int := l.foldl step 7

theorem step_bd (h : Int) (c : UInt8) : 0 ≤ step h c ∧ step h c ≤ 999978 := by
  unfold step; omega

theorem foldl_bd (l : List UInt8) : ∀ h : Int, 0 ≤ h → h ≤ 999978 → 0 ≤ l.foldl step h ∧ l.foldl step h ≤ 999978 := by
  induction l with
  | nil => intro h a b; exact ⟨a, b⟩
  | cons x r ih => intro h a b; exact ih _ (step_bd h x).1 (step_bd h x).2

theorem sum_bd (l : List UInt8) : 0 ≤ sum l ∧ sum l ≤ 999978 := foldl_bd l 7 (by omega) (by omega)

theorem sum_snoc (l : List UInt8) (c : UInt8) : sum (l ++ [c]) = (41 * sum l + (c.toNat : Int) + 1) % 999979 := by
  unfold sum; rw [List.foldl_append]; rfl

theorem take_snoc (s : ByteArray) (k : Nat) (h : k < s.size) : s.data.toList.take (k + 1) = s.data.toList.take k ++ [s[k]] := by
  rw [List.take_succ_eq_append_getElem (by simpa using h)]; rfl

theorem sum_next (s : ByteArray) (k : Nat) (h : k < s.size) : sum (s.data.toList.take (k + 1)) = (41 * sum (s.data.toList.take k) + (s[k].toNat : Int) + 1) % 999979 := by
  rw [take_snoc s k h, sum_snoc]

theorem sum_all (s : ByteArray) : sum (s.data.toList.take s.size) = sum s.data.toList := by
  rw [List.take_of_length_le (by simp)]
end Go.Proofs.YtocjedheimhfoaaDoor.psum
