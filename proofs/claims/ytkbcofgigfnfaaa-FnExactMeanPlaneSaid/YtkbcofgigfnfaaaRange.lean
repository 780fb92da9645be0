/- The walks of the tests whether all numbers of a list are in a range: the model's shares and rows, the program's own. -/
import Derived.Test.YtkbcofgigfnfaaaNums
import Derived.Test.YtkbcofgigfnfaaaOwnG
import Derived.Test.YtkbcofgigfnfaaaShelf
import Derived.Shelf.GgClosure.Gives
namespace Go.Proofs.Ytkbcofgigfnfaaa.range
open Go.RowKit own pp nums
set_option linter.unusedVariables false
set_option linter.unusedSimpArgs false

/-- Within lo..hi. -/
def inR (lo hi z : Int) : Bool := decide (lo ≤ z) && decide (z ≤ hi)
def numsR (lo hi : Int) (zs : List Int) : Bool := zs.all (inR lo hi)
theorem inR_iff (lo hi z : Int) : inR lo hi z = true ↔ lo ≤ z ∧ z ≤ hi := by simp [inR]
theorem numsR_at {lo hi : Int} {zs : List Int} (h : numsR lo hi zs = true) (k : Nat) (hk : k < zs.length) : lo ≤ zs.getD k 0 ∧ zs.getD k 0 ≤ hi := (inR_iff _ _ _).1 (all_at _ 0 zs h k hk)
def sharesB (zs : List Int) : Bool := (decide (1 ≤ (zs.length : Int)) && decide ((zs.length : Int) ≤ 8)) && numsR 0 16 zs
def rowsB' (n : Int) (zs : List Int) : Bool := numsR 0 1 zs && decide ((zs.length : Int) = n)
theorem cell_bang {w : World} {b off : Nat} {zs : List Int} (h : ∀ i, i < zs.length → w.cell? ⟨b, off + i, none⟩ = some (.int .i64 (zs.getD i 0))) : ∀ j, j < zs.length → w.cell? ⟨b, off + j, none⟩ = some (Value.int .i64 zs[j]!) := by
  intro j hj
  rw [h j hj, List.getD_eq_getElem?_getD, List.getElem?_eq_getElem hj]
  simp [hj]

theorem any_not (lo hi : Int) (zs : List Int) : zs.any (fun z => !(inR lo hi z)) = !(numsR lo hi zs) := by
  unfold numsR
  induction zs with
  | nil => rfl
  | cons z zs ih => simp [List.any_cons, List.all_cons, ih]

theorem over_at (m : Int) (b : Nat) (w : World) (hc : w.cell? ⟨b, 0, none⟩ = some (.int .i64 m)) (hb : b < w.heap.size) : PredAt Try.prog 146 #[.pointer (some ⟨b, 0, none⟩)] (Value.int .i64) (fun z => !(inR 0 m z)) w := by
  intro W z hB
  have hc2 := cell_below hB hc hb
  have HB := Lib.hid hB
  clear hB hc
  show Calls _ _ #[.int .i64 z, .pointer (some ⟨b, 0, none⟩)] W _
  cases hx : inR 0 m z
  · have HP := Lib.hid hx
    have h1 : z < 0 ∨ m < z := by unfold inR at hx; simp at hx; omega
    refine Calls.mono (show Calls Try.prog 146 #[.int .i64 z, .pointer (some ⟨b, 0, none⟩)] W (fun e w' => e = .returned (.bool true) ∧ ∃ q, w' = W.drewN q) from ?_) (fun e w' h => ⟨by rw [h.1]; simp [HP.out], h.2⟩)
    by_cases h0 : z < 0
    · have g : decide (z < 0) = true := by simp [h0]
      clear hx h1
      go_enter Try.func146, Try.ntmps146
      go_wp2_with fail
      go_ret
      exact ⟨rfl, 0, rfl⟩
    · have g : decide (z < 0) = false := by simp; omega
      have g2 : decide (m < z) = true := by simp; omega
      clear hx h1
      go_enter Try.func146, Try.ntmps146
      go_wp2_with fail
      go_ret
      exact ⟨rfl, 0, rfl⟩
  · have HP := Lib.hid hx
    have h1 := (inR_iff _ _ _).1 hx
    refine Calls.mono (show Calls Try.prog 146 #[.int .i64 z, .pointer (some ⟨b, 0, none⟩)] W (fun e w' => e = .returned (.bool false) ∧ ∃ q, w' = W.drewN q) from ?_) (fun e w' h => ⟨by rw [h.1]; simp [HP.out], h.2⟩)
    have g : decide (z < 0) = false := by simp; omega
    have g2 : decide (m < z) = false := by simp; omega
    clear hx h1
    go_enter Try.func146, Try.ntmps146
    go_wp2_with fail
    go_ret
    exact ⟨rfl, 0, rfl⟩
set_option maxHeartbeats 1000000 in
theorem impl_range (a : Option Addr) (zs : List Int) (c : Nat) (m : Int) (w : World) (hr : ints.Reads .i64 w a zs) (hn : zs.length ≤ 1048576) (ok : Bool) (h : Hid (numsR 0 m zs = ok)) :
    Calls Try.prog 131 #[.slice a zs.length c, .int .i64 m] w (RetB ok w) := by
  have hb0 := below_alloc w (.cells #[.int .i64 m] 3)
  have HB := Lib.hid hb0
  have HC := Lib.hid (show Calls Try.prog 145 #[.slice a zs.length c, .func (.func 146) #[] #[.pointer (some ⟨w.heap.size, 0, none⟩)]] (w.alloc (.cells #[.int .i64 m] 3)) fun e w' => e = .returned (.bool (!ok)) ∧ Below (w.alloc (.cells #[.int .i64 m] 3)).heap.size (w.alloc (.cells #[.int .i64 m] 3)) w' from by
    rcases hr with rfl | ⟨b, off, rfl, hb, hc⟩
    · refine (Try.slices_ContainsFunc_empty (α := Int) _ _ _ _).mono ?_
      rintro e w' ⟨rfl, rfl⟩
      exact ⟨by rw [← h.out]; rfl, Below.refl _ _⟩
    · refine (Try.slices_ContainsFunc (α := Int) (Value.int .i64) (fun z => !(inR 0 m z)) _ _ (enters_of Try.func146 (by kernel_rfl) rfl) b off zs.length c zs _ (over_at m w.heap.size _ (cell_new _ _ _ rfl rfl) (by simp)) (Nat.le_refl _) (by omega) (cell_bang fun i hi => (hb0.cell (p := ⟨b, off + i, none⟩) hb).trans (hc i hi))).mono ?_
      rintro e w' ⟨rfl, q, rfl⟩
      refine ⟨?_, ints.below_drewN (Below.refl _ _) _⟩
      rw [List.take_length, any_not, h.out])
  clear hr h hb0
  go_enter Try.func131, Try.ntmps131
  go_wp2_with fail
  refine HC.out.mono ?_
  rintro e w' ⟨rfl, hb⟩
  have HB2 := Lib.hid (HB.out.trans (hb.mono (by simp)))
  clear hb
  cases ok
  all_goals (go_wp2_with fail; go_ret; exact ⟨rfl, HB2.out⟩)
end Go.Proofs.Ytkbcofgigfnfaaa.range
