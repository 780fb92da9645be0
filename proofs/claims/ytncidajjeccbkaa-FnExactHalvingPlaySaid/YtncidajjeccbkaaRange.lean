/- The walks of the tests whether all numbers of a list are in a range: the model's shares and rows, the program's own. -/
import Derived.Test.YtncidajjeccbkaaNums
import Derived.Test.YtncidajjeccbkaaOwnG
import Derived.Test.YtncidajjeccbkaaShelf
import Derived.Shelf.GgClosure.Gives
namespace Go.Proofs.Ytncidajjeccbkaa.range
open Go.RowKit own pp nums
set_option linter.unusedVariables false
set_option linter.unusedSimpArgs false

/-- Within lo..hi. -/
def inR (lo hi z : Int) : Bool := decide (lo ≤ z) && decide (z ≤ hi)
def numsR (lo hi : Int) (zs : List Int) : Bool := zs.all (inR lo hi)
theorem inR_iff (lo hi z : Int) : inR lo hi z = true ↔ lo ≤ z ∧ z ≤ hi := by simp [inR]
theorem numsR_at {lo hi : Int} {zs : List Int} (h : numsR lo hi zs = true) (k : Nat) (hk : k < zs.length) : lo ≤ zs.getD k 0 ∧ zs.getD k 0 ≤ hi := (inR_iff _ _ _).1 (all_at _ 0 zs h k hk)
def sharesB (zs : List Int) : Bool := (decide (1 ≤ (zs.length : Int)) && decide ((zs.length : Int) ≤ 8)) && numsR 0 16 zs
def rowsB' (n : Int) (zs : List Int) : Bool := numsR 0 1 zs && decide ((zs.length : Int) = n)
theorem cell_bang {w : World} {b off : Nat} {zs : List Int} (h : ∀ i, i < zs.length → w.cell? ⟨b, off + i, none⟩ = some (.int .i64 (zs.getD i 0))) : ∀ j, j < zs.length → w.cell? ⟨b, off + j, none⟩ = some (Value.int .i64 zs[j]!) := by
  intro j hj
  rw [h j hj, List.getD_eq_getElem?_getD, List.getElem?_eq_getElem hj]
  simp [hj]

theorem any_not (lo hi : Int) (zs : List Int) : zs.any (fun z => !(inR lo hi z)) = !(numsR lo hi zs) := by
  unfold numsR
  induction zs with
  | nil => rfl
  | cons z zs ih => simp [List.any_cons, List.all_cons, ih]

end Go.Proofs.Ytncidajjeccbkaa.range
