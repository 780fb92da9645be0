/- The walk of the program's AreShares. -/
import Derived.Test.YtocbklmkphgkeaaRange
import Derived.Test.YtocbklmkphgkeaaWinBound
namespace Go.Proofs.Ytocbklmkphgkeaa.shares
open Go.RowKit own pp nums range winbound
set_option linter.unusedVariables false
set_option linter.unusedSimpArgs false

theorem impl_AreShares (a : Option Addr) (zs : List Int) (c : Nat) (w : World) (hr : ints.Reads .i64 w a zs) (hn : zs.length ≤ 1048576) (ok : Bool) (h : Hid (sharesB zs = ok)) :
    Calls Try.prog 152 #[.slice a zs.length c] w (RetB ok w) := by
  cases h1 : (decide (1 ≤ (zs.length : Int)) && decide ((zs.length : Int) ≤ 8))
  · have e : ok = false := by rw [← h.out]; unfold sharesB; rw [h1, Bool.false_and]
    have H1 := Lib.hid h1
    clear h h1
    subst e
    go_enter Try.func152, Try.ntmps152
    go_wp2_with fail
    refine (count_any _ _ false H1).mono ?_
    rintro e w' ⟨rfl, rfl⟩
    go_wp2_with fail
    go_ret
    exact ⟨rfl, Below.refl _ _⟩
  · have H2 : Hid (numsR 0 16 zs = ok) := Lib.hid (by rw [← h.out]; unfold sharesB; rw [h1, Bool.true_and])
    have H1 := Lib.hid h1
    have Hhr := Lib.hid hr
    clear h h1 hr
    go_enter Try.func152, Try.ntmps152
    go_wp2_with fail
    refine (count_any _ _ true H1).mono ?_
    rintro e w' ⟨rfl, rfl⟩
    go_wp2_with fail
    refine (impl_range a zs c 16 _ Hhr.out hn ok H2).mono ?_
    rintro e w1 ⟨rfl, hb⟩
    have HB := Lib.hid hb
    clear hb
    go_wp2_with fail
    go_ret
    exact ⟨rfl, HB.out⟩
end Go.Proofs.Ytocbklmkphgkeaa.shares
