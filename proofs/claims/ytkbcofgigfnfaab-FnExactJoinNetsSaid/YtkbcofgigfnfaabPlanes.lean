/- The walks of the model's and the program's tests of planes, of products and of sides. -/
import Derived.Test.YtkbcofgigfnfaabNums
import Derived.Deep.QuietTactic
import Derived.Deep.RegionHeld3
import Derived.BigQuiet
import Derived.IntWalk
namespace Go.Proofs.Ytkbcofgigfnfaab.planes
open Go.RowKit own pp nums
set_option linter.unusedVariables false

set_option maxHeartbeats 400000 in
theorem spec_plane (a : Option Addr) (zs : List Int) (c : Nat) (b : Int) (w : World) (hr : ints.Reads .i64 w a zs) (hn : zs.length ≤ 1048576) (ok : Bool) (h : Hid (planeB zs b = ok)) :
    Calls Try.prog 143 #[.agg #[.slice a zs.length c, .int .i64 b]] w (RetB ok w) := by
  have hB := below_alloc w (.cells #[.slice a zs.length c, .int .i64 b] 56)
  have hr1 := hr.below hB
  have HB := Lib.hid hB
  clear hB hr
  cases hl : (decide ((1 : Int) ≤ zs.length) && decide ((zs.length : Int) ≤ 4))
  · have e : ok = false := by
      rw [← h.out]
      cases hp : planeB zs b
      · rfl
      · have := (planeB_iff zs b).1 hp
        simp at hl; omega
    have HL := Lib.hid hl
    clear h hl
    subst e
    go_enter Try.func143, Try.ntmps143
    go_wp2_with fail
    refine (in_any _ _ _ _ false HL).mono ?_
    rintro e w' ⟨rfl, rfl⟩
    go_wp2_with fail
    go_ret
    exact ⟨rfl, HB.out⟩
  · cases hx : numsB 99 zs
    · have e : ok = false := by
        rw [← h.out]
        cases hp : planeB zs b
        · rfl
        · have := (planeB_iff zs b).1 hp
          simp_all
      have HL := Lib.hid hl
      have HX := Lib.hid hx
      clear h hl hx
      subst e
      go_enter Try.func143, Try.ntmps143
      go_wp2_with fail
      refine (in_any _ _ _ _ true HL).mono ?_
      rintro e w' ⟨rfl, rfl⟩
      go_wp2_with fail
      refine (spec_nums a zs c 99 _ hr1 hn (by omega) (by omega) false HX).mono ?_
      rintro e w' ⟨rfl, rfl⟩
      go_wp2_with fail
      go_ret
      exact ⟨rfl, HB.out⟩
    · have HY : Hid (inB 99 b = ok) := by
        rw [← h.out]
        show inB 99 b = planeB zs b
        simp at hl
        simp [planeB, hx, show 1 ≤ zs.length by omega, show zs.length ≤ 4 by omega]
      have HL := Lib.hid hl
      have HX := Lib.hid hx
      clear h hl hx
      unfold inB at HY
      go_enter Try.func143, Try.ntmps143
      go_wp2_with fail
      refine (in_any _ _ _ _ true HL).mono ?_
      rintro e w' ⟨rfl, rfl⟩
      go_wp2_with fail
      refine (spec_nums a zs c 99 _ hr1 hn (by omega) (by omega) true HX).mono ?_
      rintro e w' ⟨rfl, rfl⟩
      go_wp2_with fail
      refine (in_any _ _ _ _ ok HY).mono ?_
      rintro e w' ⟨rfl, rfl⟩
      go_wp2_with fail
      go_ret
      exact ⟨rfl, HB.out⟩
set_option maxHeartbeats 400000 in
theorem impl_plane (a : Option Addr) (zs : List Int) (c : Nat) (b : Int) (w : World) (hr : ints.Reads .i64 w a zs) (hn : zs.length ≤ 1048576) (ok : Bool) (h : Hid (planeB zs b = ok)) :
    Calls Try.prog 170 #[.agg #[.slice a zs.length c, .int .i64 b]] w (RetB ok w) := by
  have hB := below_alloc w (.cells #[.slice a zs.length c, .int .i64 b] 56)
  have hr1 := hr.below hB
  have HB := Lib.hid hB
  clear hB hr
  by_cases h1 : (1 : Int) ≤ zs.length
  · by_cases h2 : (zs.length : Int) ≤ 4
    · cases hx : numsB 99 zs
      · have e : ok = false := by
          rw [← h.out]
          cases hp : planeB zs b
          · rfl
          · have := (planeB_iff zs b).1 hp
            simp_all
        have HX := Lib.hid hx
        clear h hx
        subst e
        go_enter Try.func170, Try.ntmps170
        go_wp2_with fail
        refine (impl_nums a zs c 99 _ hr1 hn (by omega) (by omega) false HX).mono ?_
        rintro e w' ⟨rfl, rfl⟩
        go_wp2_with fail
        go_ret
        exact ⟨rfl, HB.out⟩
      · have HY : Hid (inB 99 b = ok) := by
          rw [← h.out]
          show inB 99 b = planeB zs b
          simp [planeB, hx, show 1 ≤ zs.length by omega, show zs.length ≤ 4 by omega]
        have HX := Lib.hid hx
        clear h hx
        go_enter Try.func170, Try.ntmps170
        go_wp2_with fail
        refine (impl_nums a zs c 99 _ hr1 hn (by omega) (by omega) true HX).mono ?_
        rintro e w' ⟨rfl, rfl⟩
        go_wp2_with fail
        refine (within_any _ _ _ (by omega) (by omega) ok HY).mono ?_
        rintro e w' ⟨rfl, rfl⟩
        go_wp2_with fail
        go_ret
        exact ⟨rfl, HB.out⟩
    · have e : ok = false := by
        rw [← h.out]
        cases hp : planeB zs b
        · rfl
        · have := (planeB_iff zs b).1 hp
          omega
      clear h
      subst e
      go_enter Try.func170, Try.ntmps170
      go_wp2_with fail
      go_ret
      exact ⟨rfl, HB.out⟩
  · have e : ok = false := by
      rw [← h.out]
      cases hp : planeB zs b
      · rfl
      · have := (planeB_iff zs b).1 hp
        omega
    clear h
    subst e
    have hz : zs = [] := List.length_eq_zero_iff.1 (by omega)
    subst hz
    go_enter Try.func170, Try.ntmps170
    go_wp2_with fail
    go_ret
    exact ⟨rfl, HB.out⟩
end Go.Proofs.Ytkbcofgigfnfaab.planes
