/- Several texts in one. -/
import Derived.BigQuiet
import Derived.Deep.QuietTactic
import Derived.Deep.RegionHeld3
import Derived.IntWalk
import Derived.Test.YtoephhhofkmgjabSpG6
import Derived.Test.YtoephhhofkmgjabSpG4
namespace Go.Proofs.Ytoephhhofkmgjab.planes
open Go.RowKit own pp nums
set_option linter.unusedVariables false

set_option maxHeartbeats 400000 in
theorem spec_plane (a : Option Addr) (zs : List Int) (c : Nat) (b : Int) (w : World) (hr : ints.Reads .i64 w a zs) (hn : zs.length ≤ 1048576) (ok : Bool) (h : Hid (planeB zs b = ok)) :
    Calls Try.prog 90 #[.agg #[.slice a zs.length c, .int .i64 b]] w (RetB ok w) := by
  have hB := below_alloc w (.cells #[.slice a zs.length c, .int .i64 b] 46)
  have hr1 := hr.below hB
  have HB := Lib.hid hB
  clear hB hr
  cases hl : (decide ((1 : Int) ≤ zs.length) && decide ((zs.length : Int) ≤ 4))
  · have e : ok = false := by
      rw [← h.out]
      cases hp : planeB zs b
      · rfl
      · have := (planeB_iff zs b).1 hp
        simp at hl; omega
    have HL := Lib.hid hl
    clear h hl
    subst e
    go_enter Try.func90, Try.ntmps90
    go_wp2_with fail
    refine (in_any _ _ _ _ false HL).mono ?_
    rintro e w' ⟨rfl, rfl⟩
    go_wp2_with fail
    go_ret
    exact ⟨rfl, HB.out⟩
  · cases hx : numsB 99 zs
    · have e : ok = false := by
        rw [← h.out]
        cases hp : planeB zs b
        · rfl
        · have := (planeB_iff zs b).1 hp
          simp_all
      have HL := Lib.hid hl
      have HX := Lib.hid hx
      clear h hl hx
      subst e
      go_enter Try.func90, Try.ntmps90
      go_wp2_with fail
      refine (in_any _ _ _ _ true HL).mono ?_
      rintro e w' ⟨rfl, rfl⟩
      go_wp2_with fail
      refine (spec_nums a zs c 99 _ hr1 hn (by omega) (by omega) false HX).mono ?_
      rintro e w' ⟨rfl, rfl⟩
      go_wp2_with fail
      go_ret
      exact ⟨rfl, HB.out⟩
    · have HY : Hid (inB 99 b = ok) := by
        rw [← h.out]
        show inB 99 b = planeB zs b
        simp at hl
        simp [planeB, hx, show 1 ≤ zs.length by omega, show zs.length ≤ 4 by omega]
      have HL := Lib.hid hl
      have HX := Lib.hid hx
      clear h hl hx
      unfold inB at HY
      go_enter Try.func90, Try.ntmps90
      go_wp2_with fail
      refine (in_any _ _ _ _ true HL).mono ?_
      rintro e w' ⟨rfl, rfl⟩
      go_wp2_with fail
      refine (spec_nums a zs c 99 _ hr1 hn (by omega) (by omega) true HX).mono ?_
      rintro e w' ⟨rfl, rfl⟩
      go_wp2_with fail
      refine (in_any _ _ _ _ ok HY).mono ?_
      rintro e w' ⟨rfl, rfl⟩
      go_wp2_with fail
      go_ret
      exact ⟨rfl, HB.out⟩
set_option maxHeartbeats 400000 in
theorem impl_plane (a : Option Addr) (zs : List Int) (c : Nat) (b : Int) (w : World) (hr : ints.Reads .i64 w a zs) (hn : zs.length ≤ 1048576) (ok : Bool) (h : Hid (planeB zs b = ok)) :
    Calls Try.prog 142 #[.agg #[.slice a zs.length c, .int .i64 b]] w (RetB ok w) := by
  have hB := below_alloc w (.cells #[.slice a zs.length c, .int .i64 b] 46)
  have hr1 := hr.below hB
  have HB := Lib.hid hB
  clear hB hr
  by_cases h1 : (1 : Int) ≤ zs.length
  · by_cases h2 : (zs.length : Int) ≤ 4
    · cases hx : numsB 99 zs
      · have e : ok = false := by
          rw [← h.out]
          cases hp : planeB zs b
          · rfl
          · have := (planeB_iff zs b).1 hp
            simp_all
        have HX := Lib.hid hx
        clear h hx
        subst e
        go_enter Try.func142, Try.ntmps142
        go_wp2_with fail
        refine (impl_nums a zs c 99 _ hr1 hn (by omega) (by omega) false HX).mono ?_
        rintro e w' ⟨rfl, rfl⟩
        go_wp2_with fail
        go_ret
        exact ⟨rfl, HB.out⟩
      · have HY : Hid (inB 99 b = ok) := by
          rw [← h.out]
          show inB 99 b = planeB zs b
          simp [planeB, hx, show 1 ≤ zs.length by omega, show zs.length ≤ 4 by omega]
        have HX := Lib.hid hx
        clear h hx
        go_enter Try.func142, Try.ntmps142
        go_wp2_with fail
        refine (impl_nums a zs c 99 _ hr1 hn (by omega) (by omega) true HX).mono ?_
        rintro e w' ⟨rfl, rfl⟩
        go_wp2_with fail
        refine (within_any _ _ _ (by omega) (by omega) ok HY).mono ?_
        rintro e w' ⟨rfl, rfl⟩
        go_wp2_with fail
        go_ret
        exact ⟨rfl, HB.out⟩
    · have e : ok = false := by
        rw [← h.out]
        cases hp : planeB zs b
        · rfl
        · have := (planeB_iff zs b).1 hp
          omega
      clear h
      subst e
      go_enter Try.func142, Try.ntmps142
      go_wp2_with fail
      go_ret
      exact ⟨rfl, HB.out⟩
  · have e : ok = false := by
      rw [← h.out]
      cases hp : planeB zs b
      · rfl
      · have := (planeB_iff zs b).1 hp
        omega
    clear h
    subst e
    have hz : zs = [] := List.length_eq_zero_iff.1 (by omega)
    subst hz
    go_enter Try.func142, Try.ntmps142
    go_wp2_with fail
    go_ret
    exact ⟨rfl, HB.out⟩
end Go.Proofs.Ytoephhhofkmgjab.planes

namespace Go.Proofs.Ytoephhhofkmgjab.dots
open Go.RowKit own pp nums planes
set_option linter.unusedVariables false

/-- It returns a number, and draws alone. -/
def Tells (n : Int) (w : World) (e : Ending) (w' : World) : Prop := e = .returned (.int .i64 n) ∧ ∃ m, w' = w.drewN m

theorem drewN_all (w : World) : w = w.drewN 0 := rfl

set_option maxHeartbeats 800000 in
theorem spec_dot (a : Option Addr) (xs : List Int) (c : Nat) (a' : Option Addr) (ys : List Int) (c' : Nat) (w : World) (hr : ints.Reads .i64 w a xs) (hr' : ints.Reads .i64 w a' ys) (hn : xs.length ≤ 1048576) (hl : xs.length ≤ ys.length) (hm : ys.length ≤ 1048576) (hS : Small xs ys) :
    Calls Try.prog 114 #[.slice a xs.length c, .slice a' ys.length c'] w (Tells (dot xs ys) w) := by
  have HS := Lib.hid hS
  clear hS
  go_enter Try.func114, Try.ntmps114
  go_wp2_with fail
  go_loopw [5, 6] (fun s i wr => ∃ k : Nat, k ≤ xs.length ∧ i = .int .i64 k ∧ s = .int .i64 (dotTo xs ys k) ∧ ∃ n, wr = w.drewN n) (fun _ i _ => xs.length - (intOf i).toNat)
  case atStart => exact ⟨0, Nat.zero_le _, rfl, rfl, 0, rfl⟩
  case round =>
    obtain ⟨k, hk, rfl, rfl, n, rfl⟩ := hrel
    by_cases hlt : k < xs.length
    · obtain ⟨b, off, rfl, hb, hc⟩ := hr.at hlt
      obtain ⟨b', off', rfl, hb', hc'⟩ := hr'.at (k := k) (by omega)
      have hbd := dotTo_bd HS.out k hk
      have hx := HS.out k hlt
      have HT := Lib.hid (dotTo_succ xs ys k)
      generalize hs : xs.getD k 0 = x at *
      generalize hs' : ys.getD k 0 = y at *
      generalize hd : dotTo xs ys k = s at *
      clear hs hs' hd
      have e1 : IntKind.i64.wrap (x * y) = x * y := IntWalk.i64_in _ (by omega)
      have e2 : IntKind.i64.wrap (s + x * y) = s + x * y := IntWalk.i64_in _ (by omega)
      have i1 : (0 : Int) ≤ (k : Int) := by omega
      have i2 : (k : Int) < (xs.length : Int) := by omega
      have i3 : (k : Int) < (ys.length : Int) := by omega
      go_wp2_with fail
      go_quiet (fail)
      clear e1 e2
      go_wp2_with fail
      go_roundw
      case rel => exact ⟨k + 1, by omega, by go_num, by rw [HT.out], _, rfl⟩
      case measure => simp [intOf]; omega
    · obtain rfl : k = xs.length := by omega
      go_wp2_with fail
      go_ret
      exact ⟨rfl, _, rfl⟩
set_option maxHeartbeats 800000 in
theorem impl_dot (a : Option Addr) (xs : List Int) (c : Nat) (a' : Option Addr) (ys : List Int) (c' : Nat) (w : World) (hr : ints.Reads .i64 w a xs) (hr' : ints.Reads .i64 w a' ys) (hn : xs.length ≤ 1048576) (hl : xs.length ≤ ys.length) (hm : ys.length ≤ 1048576) (hS : Small xs ys) :
    Calls Try.prog 137 #[.slice a xs.length c, .slice a' ys.length c'] w (Tells (dot xs ys) w) := by
  have HS := Lib.hid hS
  clear hS
  go_enter Try.func137, Try.ntmps137
  go_wp2_with fail
  go_loopw [5, 9] (fun s i wr => ∃ k : Nat, k ≤ xs.length ∧ i = .int .i64 k ∧ s = .int .i64 (dotTo xs ys k) ∧ ∃ n, wr = w.drewN n) (fun _ i _ => xs.length - (intOf i).toNat)
  case atStart => exact ⟨0, Nat.zero_le _, rfl, rfl, 0, rfl⟩
  case round =>
    obtain ⟨k, hk, rfl, rfl, n, rfl⟩ := hrel
    by_cases hlt : k < xs.length
    · obtain ⟨b, off, rfl, hb, hc⟩ := hr.at hlt
      obtain ⟨b', off', rfl, hb', hc'⟩ := hr'.at (k := k) (by omega)
      have hbd := dotTo_bd HS.out k hk
      have hx := HS.out k hlt
      have HT := Lib.hid (dotTo_succ xs ys k)
      generalize hs : xs.getD k 0 = x at *
      generalize hs' : ys.getD k 0 = y at *
      generalize hd : dotTo xs ys k = s at *
      clear hs hs' hd
      have e1 : IntKind.i64.wrap (x * y) = x * y := IntWalk.i64_in _ (by omega)
      have e2 : IntKind.i64.wrap (s + x * y) = s + x * y := IntWalk.i64_in _ (by omega)
      have i1 : (0 : Int) ≤ (k : Int) := by omega
      have i2 : (k : Int) < (xs.length : Int) := by omega
      have i3 : (k : Int) < (ys.length : Int) := by omega
      go_wp2_with fail
      go_quiet (fail)
      clear e1 e2
      go_wp2_with fail
      go_roundw
      case rel => exact ⟨k + 1, by omega, by go_num, by rw [HT.out], _, rfl⟩
      case measure => simp [intOf]; omega
    · obtain rfl : k = xs.length := by omega
      go_wp2_with fail
      go_ret
      exact ⟨rfl, _, rfl⟩
set_option maxHeartbeats 800000 in
theorem spec_side (a : Option Addr) (ws : List Int) (c : Nat) (b : Int) (a' : Option Addr) (xs : List Int) (c' : Nat) (w : World) (hr : ints.Reads .i64 w a ws) (hr' : ints.Reads .i64 w a' xs) (hn : ws.length ≤ 1048576) (hl : ws.length ≤ xs.length) (hm : xs.length ≤ 1048576) (hS : Small ws xs) :
    Calls Try.prog 139 #[.agg #[.slice a ws.length c, .int .i64 b], .slice a' xs.length c'] w (RetN (side ws b xs) w) := by
  have hB := below_alloc w (.cells #[.slice a ws.length c, .int .i64 b] 46)
  have hr1 := hr.below hB
  have hr1' := hr'.below hB
  have HB := Lib.hid hB
  have HS := Lib.hid hS
  have HD := Lib.hid (show side ws b xs = if b ≤ dot ws xs then 1 else -1 from rfl)
  have HC := Lib.hid (show ∀ n : Nat, Calls Try.prog 114 #[.slice a ws.length c, .slice a' xs.length c'] ((w.alloc (.cells #[.slice a ws.length c, .int .i64 b] 46)).drewN n) (Tells (dot ws xs) ((w.alloc (.cells #[.slice a ws.length c, .int .i64 b] 46)).drewN n)) from fun n => spec_dot a ws c a' xs c' _ hr1 hr1' hn hl hm hS)
  clear hB hr hr' hS
  generalize dot ws xs = d at *
  generalize side ws b xs = s at *
  by_cases hd : b ≤ d
  · have hd' : decide (b ≤ d) = true := by simpa using hd
    have e := HD.out
    rw [if_pos hd] at e
    subst e
    go_enter Try.func139, Try.ntmps139
    go_wp2_with fail
    go_quiet ((go_at_call 114; exact Calls.quiet_of (HC.out _)))
    go_wp2_with fail
    go_ret
    exact ⟨rfl, ints.below_drewN HB.out _⟩
  · have hd' : decide (b ≤ d) = false := by simpa using hd
    have e := HD.out
    rw [if_neg hd] at e
    subst e
    go_enter Try.func139, Try.ntmps139
    go_wp2_with fail
    go_quiet ((go_at_call 114; exact Calls.quiet_of (HC.out _)))
    go_wp2_with fail
    go_ret
    exact ⟨rfl, ints.below_drewN HB.out _⟩
/-- A number that can be taken from a product. -/
def Mid (b : Int) : Prop := -4000000000000000000 ≤ b ∧ b ≤ 4000000000000000000
theorem mid_plane {ws : List Int} {b : Int} (h : planeB ws b = true) : Mid b := by
  have := (inB_iff _ _).1 ((planeB_iff _ _).1 h).2.2.2
  unfold Mid; omega
def lab (n : Int) : Int := if 0 ≤ n then 1 else -1
set_option maxHeartbeats 400000 in
theorem impl_lab (n : Int) (w : World) : Calls Try.prog 148 #[.int .i64 n] w (Tells (lab n) w) := by
  have HD := Lib.hid (show lab n = if 0 ≤ n then 1 else -1 from rfl)
  generalize lab n = s at *
  by_cases hd : 0 ≤ n
  · have hd' : decide (0 ≤ n) = true := by simpa using hd
    have e := HD.out
    rw [if_pos hd] at e
    subst e
    go_enter Try.func148, Try.ntmps148
    go_wp2_with fail
    go_ret
    exact ⟨rfl, 0, rfl⟩
  · have hd' : decide (0 ≤ n) = false := by simpa using hd
    have e := HD.out
    rw [if_neg hd] at e
    subst e
    go_enter Try.func148, Try.ntmps148
    go_wp2_with fail
    go_ret
    exact ⟨rfl, 0, rfl⟩
set_option maxHeartbeats 800000 in
theorem impl_side (a : Option Addr) (ws : List Int) (c : Nat) (b : Int) (a' : Option Addr) (xs : List Int) (c' : Nat) (w : World) (hr : ints.Reads .i64 w a ws) (hr' : ints.Reads .i64 w a' xs) (hn : ws.length ≤ 1048576) (hl : ws.length ≤ xs.length) (hm : xs.length ≤ 1048576) (hS : Small ws xs) (hMb : Mid b) :
    Calls Try.prog 143 #[.agg #[.slice a ws.length c, .int .i64 b], .slice a' xs.length c'] w (RetN (side ws b xs) w) := by
  have hB := below_alloc w (.cells #[.slice a ws.length c, .int .i64 b] 46)
  have hr1 := hr.below hB
  have hr1' := hr'.below hB
  have hbd := dotTo_bd hS ws.length (Nat.le_refl _)
  have HB := Lib.hid hB
  have HC := Lib.hid (show ∀ n : Nat, Calls Try.prog 137 #[.slice a ws.length c, .slice a' xs.length c'] ((w.alloc (.cells #[.slice a ws.length c, .int .i64 b] 46)).drewN n) (Tells (dot ws xs) ((w.alloc (.cells #[.slice a ws.length c, .int .i64 b] 46)).drewN n)) from fun n => impl_dot a ws c a' xs c' _ hr1 hr1' hn hl hm hS)
  have HL := Lib.hid (show ∀ n : Nat, Calls Try.prog 148 #[.int .i64 (dot ws xs - b)] ((w.alloc (.cells #[.slice a ws.length c, .int .i64 b] 46)).drewN n) (Tells (side ws b xs) ((w.alloc (.cells #[.slice a ws.length c, .int .i64 b] 46)).drewN n)) from fun n => by
    have e : side ws b xs = lab (dot ws xs - b) := by
      unfold side lab
      by_cases h : b ≤ dot ws xs
      · rw [if_pos h, if_pos (by omega)]
      · rw [if_neg h, if_neg (by omega)]
    rw [e]
    exact impl_lab _ _)
  have hd : dotTo ws xs ws.length = dot ws xs := rfl
  rw [hd] at hbd
  clear hB hr hr' hS hd
  unfold Mid at hMb
  generalize dot ws xs = d at *
  generalize side ws b xs = s at *
  have e1 : IntKind.i64.wrap (d - b) = d - b := IntWalk.i64_in _ (by omega)
  clear hbd hMb
  go_enter Try.func143, Try.ntmps143
  go_wp2_with fail
  go_quiet (first | (go_at_call 137; exact Calls.quiet_of (HC.out _)) | (go_at_call 148; exact Calls.quiet_of (HL.out _)))
  go_wp2_with fail
  go_ret
  exact ⟨rfl, ints.below_drewN HB.out _⟩
end Go.Proofs.Ytoephhhofkmgjab.dots

namespace Go.Proofs.Ytoephhhofkmgjab.has
open Go.RowKit own pp nums
set_option linter.unusedVariables false

/-- Whether a list has a number. -/
def hasB (zs : List Int) (n : Int) : Bool := zs.contains n
theorem hasB_at {zs : List Int} {n : Int} {k : Nat} (hk : k < zs.length) (h : zs.getD k 0 = n) : hasB zs n = true := by
  unfold hasB
  rw [List.contains_iff_mem, ← h, List.getD_eq_getElem?_getD, List.getElem?_eq_getElem hk]
  exact List.getElem_mem hk
theorem hasB_none {zs : List Int} {n : Int} (h : ∀ k, k < zs.length → zs.getD k 0 ≠ n) : hasB zs n = false := by
  cases hb : hasB zs n
  · rfl
  · exfalso
    unfold hasB at hb
    rw [List.contains_iff_mem] at hb
    obtain ⟨i, hi, e⟩ := List.getElem_of_mem hb
    exact h i hi (by rw [List.getD_eq_getElem?_getD, List.getElem?_eq_getElem hi]; exact e)
theorem hasB_ex {zs : List Int} {n : Int} (h : hasB zs n = true) : ∃ k, k < zs.length ∧ zs.getD k 0 = n := by
  unfold hasB at h
  rw [List.contains_iff_mem] at h
  obtain ⟨i, hi, e⟩ := List.getElem_of_mem h
  exact ⟨i, hi, by rw [List.getD_eq_getElem?_getD, List.getElem?_eq_getElem hi]; exact e⟩

set_option maxHeartbeats 400000 in
theorem spec_has (a : Option Addr) (zs : List Int) (c : Nat) (n : Int) (w : World) (hr : ints.Reads .i64 w a zs) (hn : zs.length ≤ 1048576) (ok : Bool) (h : Hid (hasB zs n = ok)) :
    Calls Try.prog 81 #[.slice a zs.length c, .int .i64 n] w (Says ok w) := by
  go_enter Try.func81, Try.ntmps81
  go_wp2_with fail
  go_loop [5] (fun i => ∃ k : Nat, k ≤ zs.length ∧ i = .int .i64 k ∧ Hid (∀ j, j < k → zs.getD j 0 ≠ n)) (fun i => zs.length - (intOf i).toNat)
  case atStart => exact ⟨0, Nat.zero_le _, rfl, fun j hj => by omega⟩
  case round =>
    obtain ⟨k, hk, rfl, hj⟩ := hrel
    by_cases hlt : k < zs.length
    · obtain ⟨b, off, rfl, hb, hc⟩ := hr.at hlt
      by_cases hx : zs.getD k 0 = n
      · have e : ok = true := by rw [← h.out]; exact hasB_at hlt hx
        clear h hj
        subst e
        rw [hx] at hc
        clear hx
        go_wp2_with fail
        go_ret
        exact ⟨rfl, rfl⟩
      · have HJ : Hid (∀ j, j < k + 1 → zs.getD j 0 ≠ n) := fun j h => by
          by_cases e : j = k
          · rw [e]; exact hx
          · exact hj.out j (by omega)
        have f1 : (zs.getD k 0 == n) = false := by simpa using hx
        clear hx hj
        generalize hs : zs.getD k 0 = s at *
        clear hs
        go_wp2_with fail
        go_round
        case rel => exact ⟨k + 1, by omega, by go_num, HJ⟩
        case measure => simp [intOf]; omega
    · have : k = zs.length := by omega
      have e : ok = false := by rw [← h.out]; exact hasB_none (fun j hj' => hj.out j (by omega))
      clear h hj
      subst this
      subst e
      go_wp2_with fail
      go_ret
      exact ⟨rfl, rfl⟩
end Go.Proofs.Ytoephhhofkmgjab.has

namespace Go.Proofs.Ytoephhhofkmgjab.samplesv
open Go.RowKit own pp nums
set_option linter.unusedVariables false

theorem says_quiet {P : Program} {f : FuncId} {args : Array Value} {w : World} {n : Nat} {ok : Bool} (h : Calls P f args (w.drewN n) (Says ok (w.drewN n))) :
    Calls P f args (w.drewN n) fun e w'' => e = .returned (.bool ok) ∧ ∃ m, w'' = w.drewN m :=
  h.mono fun _ _ ⟨he, hw⟩ => ⟨he, n, hw.symm⟩

set_option maxHeartbeats 400000 in
theorem spec_labels (a : Option Addr) (zs : List Int) (c : Nat) (w : World) (hr : ints.Reads .i64 w a zs) (hn : zs.length ≤ 1048576) (ok : Bool) (h : Hid (labelsB zs = ok)) :
    Calls Try.prog 98 #[.slice a zs.length c] w (Says ok w) := by
  go_enter Try.func98, Try.ntmps98
  go_wp2_with fail
  go_loop [3] (fun i => ∃ k : Nat, k ≤ zs.length ∧ i = .int .i64 k ∧ Hid (∀ j, j < k → labelB (zs.getD j 0) = true)) (fun i => zs.length - (intOf i).toNat)
  case atStart => exact ⟨0, Nat.zero_le _, rfl, fun j hj => by omega⟩
  case round =>
    obtain ⟨k, hk, rfl, hj⟩ := hrel
    by_cases hlt : k < zs.length
    · obtain ⟨b, off, rfl, hb, hc⟩ := hr.at hlt
      cases hx : labelB (zs.getD k 0)
      · have e : ok = false := by rw [← h.out]; exact all_false _ 0 zs k hlt hx
        have hne : ¬ (zs.getD k 0 = 1 ∨ zs.getD k 0 = -1) := fun e => by rw [(labelB_iff _).2 e] at hx; cases hx
        clear h hx
        subst e
        generalize hs : zs.getD k 0 = s at *
        clear hs
        have f1 : (s != 1) = true := by simp; omega
        have f2 : (s != -1) = true := by simp; omega
        clear hne
        go_wp2_with fail
        go_ret
        exact ⟨rfl, rfl⟩
      · have HJ : Hid (∀ j, j < k + 1 → labelB (zs.getD j 0) = true) := fun j h => by
          by_cases e : j = k
          · rw [e]; exact hx
          · exact hj.out j (by omega)
        have hx' := (labelB_iff _).1 hx
        clear hx hj
        generalize hs : zs.getD k 0 = s at *
        clear hs
        rcases hx' with rfl | rfl
        all_goals
          go_wp2_with fail
          go_round
          case rel => exact ⟨k + 1, by omega, by go_num, HJ⟩
          case measure => simp [intOf]; omega
    · have : k = zs.length := by omega
      have e : ok = true := by rw [← h.out]; exact all_true _ 0 zs (fun j hj' => hj.out j (by omega))
      clear h hj
      subst this
      subst e
      go_wp2_with fail
      go_ret
      exact ⟨rfl, rfl⟩
theorem impl_label (x : Int) (w : World) (ok : Bool) (h : Hid (labelB x = ok)) :
    Calls Try.prog 101 #[.int .i64 x] w (Says ok w) := by
  by_cases h1 : x = 1
  · have e : ok = true := by rw [← h.out]; simp [labelB, h1]
    clear h
    subst h1 e
    go_enter Try.func101, Try.ntmps101
    go_wp2_with fail
    go_ret
    exact ⟨rfl, rfl⟩
  · by_cases h2 : x = -1
    · have e : ok = true := by rw [← h.out]; simp [labelB, h2]
      clear h h1
      subst h2 e
      go_enter Try.func101, Try.ntmps101
      go_wp2_with fail
      go_ret
      exact ⟨rfl, rfl⟩
    · have e : ok = false := by rw [← h.out]; simp [labelB, h1, h2]
      have f1 : (x == 1) = false := by simp; omega
      have f2 : (x == -1) = false := by simp; omega
      clear h h1 h2
      subst e
      go_enter Try.func101, Try.ntmps101
      go_wp2_with fail
      go_ret
      exact ⟨rfl, rfl⟩

/-- A row is a point as long as the first one. -/
def rowB (rows : List (List Int)) (r : List Int) : Bool := pointB r && decide (r.length = (rows.getD 0 []).length)
theorem rowsB_eq (rows : List (List Int)) : rowsB rows = rows.all (rowB rows) := rfl

set_option maxRecDepth 100000 in
set_option maxHeartbeats 2000000 in
/-- Behind the first tests: the loop over the rows. -/
theorem spec_sample_loop (a : Option Addr) (rows : List (List Int)) (c : Nat) (a' : Option Addr) (zs : List Int) (c' : Nat) (w : World) (hr : grid.Reads w a rows) (hr' : ints.Reads .i64 w a' zs) (hz : rows.length ≤ 16) (hl : Hid (zs.length = rows.length)) (hm : ∀ r ∈ rows, r.length ≤ 1048576)
    (hL : Hid (labelsB zs = true)) (ok : Bool) (h : Hid (rowsB rows = ok)) :
    Calls Try.prog 59 #[.agg #[.slice a rows.length c, .slice a' zs.length c']] w (RetB ok w) := by
  have hB := below_alloc w (.cells #[.slice a rows.length c, .slice a' zs.length c'] 56)
  have x0 : (w.alloc (.cells #[.slice a rows.length c, .slice a' zs.length c'] 56)).cell? ⟨w.heap.size, 0, none⟩ = some (.slice a rows.length c) := cell_new _ _ _ rfl rfl
  have x1 : (w.alloc (.cells #[.slice a rows.length c, .slice a' zs.length c'] 56)).cell? ⟨w.heap.size, 1, none⟩ = some (.slice a' zs.length c') := cell_new _ _ _ rfl rfl
  have hr1 := hr.below hB
  have hr1' := hr'.below hB
  have HB := Lib.hid hB
  have HM := Lib.hid hm
  have g1 : decide ((16 : Int) < (rows.length : Int)) = false := by simp; omega
  have g2 : ((zs.length : Int) != (rows.length : Int)) = false := by simp [hl.out]
  have hzl : zs.length ≤ 1048576 := by have := hl.out; omega
  clear hB hr hr' hm
  generalize hw : w.alloc (.cells #[.slice a rows.length c, .slice a' zs.length c'] 56) = w0 at *
  have HW := Lib.hid hw
  clear hw
  go_enter Try.func59, Try.ntmps59
  go_wp2_with fail
  rw [HW.out]
  refine (spec_labels a' zs c' _ hr1' hzl true hL).mono ?_
  rintro e w' ⟨rfl, rfl⟩
  clear g1 g2
  go_wp2_with fail
  go_loopw [3] (fun i wr => ∃ k : Nat, k ≤ rows.length ∧ i = .int .i64 k ∧ Hid (∀ j, j < k → rowB rows (rows.getD j []) = true) ∧ wr.cell? ⟨w.heap.size, 0, none⟩ = some (.slice a rows.length c) ∧ wr.cell? ⟨w.heap.size, 1, none⟩ = some (.slice a' zs.length c') ∧ grid.Reads wr a rows ∧ Below w.heap.size w wr) (fun i _ => rows.length - (intOf i).toNat)
  case atStart => exact ⟨0, Nat.zero_le _, rfl, fun j hj => by omega, x0, x1, hr1, HB.out⟩
  case round =>
    obtain ⟨k, hk, rfl, hj, x0, x1, hrw, hbw⟩ := hrel
    have HB := Lib.hid hbw
    have HRW := Lib.hid hrw
    clear hbw
    by_cases hlt : k < rows.length
    · obtain ⟨b, off, p, q, rfl, hb, hc, hpq, hrow⟩ := hrw.at hlt
      obtain ⟨b0, off0, p0, q0, e0, hb0, hc0, hpq0, hrow0⟩ := hrw.at (k := 0) (by omega)
      cases e0
      simp only [Nat.add_zero] at hc0
      have hml : (rows.getD k []).length ≤ 1048576 := HM.out _ (getD_mem rows [] k hlt)
      have hml0 : (rows.getD 0 []).length ≤ 1048576 := HM.out _ (getD_mem rows [] 0 (by omega))
      have HC := Lib.hid (show ∀ (m : Nat) (ok : Bool), Hid (pointB (rows.getD k []) = ok) → Calls Try.prog 99 #[.slice p (rows.getD k []).length q] (wr.drewN m) (Says ok (wr.drewN m)) from fun m ok h => spec_point p _ q (wr.drewN m) hrow hml ok h)
      have HJ := Lib.hid (show rowB rows (rows.getD k []) = true → ∀ j, j < k + 1 → rowB rows (rows.getD j []) = true from fun hx j h => by
          by_cases e : j = k
          · rw [e]; exact hx
          · exact hj.out j (by omega))
      have HN := Lib.hid (show rowB rows (rows.getD k []) = false → rowsB rows = false from fun hx => all_false _ [] rows k hlt hx)
      have HR := Lib.hid (show rowB rows (rows.getD k []) = (pointB (rows.getD k []) && decide ((rows.getD k []).length = (rows.getD 0 []).length)) from rfl)
      clear hj hrow hrow0 hpq hpq0 hrw
      have i1 : (0 : Int) ≤ (k : Int) := by omega
      have i2 : (k : Int) < (rows.length : Int) := by omega
      have i3 : (0 : Int) < (rows.length : Int) := by omega
      have i4 : 0 < rows.length := by omega
      generalize rowB rows (rows.getD k []) = rb at *
      generalize rows.getD k [] = r at *
      generalize rows.getD 0 [] = r0 at *
      cases hp : pointB r
      · have e : ok = false := by rw [← h.out]; exact HN.out (by rw [HR.out, hp]; rfl)
        have HP := Lib.hid hp
        clear h hp
        subst e
        go_wp2_with fail
        go_quiet ((go_at_call 99; exact says_quiet (HC.out _ false HP)))
        go_wp2_with fail
        go_ret
        exact ⟨rfl, ints.below_drewN HB.out _⟩
      · by_cases hll : r.length = r0.length
        · have g1 : ((r.length : Int) != (r0.length : Int)) = false := by simp [hll]
          have HP := Lib.hid hp
          have HJ' := Lib.hid (HJ.out (by rw [HR.out, hp, hll]; simp))
          clear hp hll
          go_wp2_with fail
          go_quiet ((go_at_call 99; exact says_quiet (HC.out _ true HP)))
          go_wp2_with fail
          go_roundw
          case rel => exact ⟨k + 1, by omega, by go_num, HJ', x0, x1, HRW.out, ints.below_drewN HB.out _⟩
          case measure => simp [intOf]; omega
        · have g1 : ((r.length : Int) != (r0.length : Int)) = true := by simp; omega
          have e : ok = false := by rw [← h.out]; exact HN.out (by rw [HR.out]; simp [hll])
          have HP := Lib.hid hp
          clear h hp hll
          subst e
          go_wp2_with fail
          go_quiet ((go_at_call 99; exact says_quiet (HC.out _ true HP)))
          go_wp2_with fail
          go_ret
          exact ⟨rfl, ints.below_drewN HB.out _⟩
    · have : k = rows.length := by omega
      have e : ok = true := by rw [← h.out]; exact all_true _ [] rows (fun j hj' => hj.out j (by omega))
      clear h hj
      subst e
      clear hrw
      go_wp2_with fail
      go_ret
      exact ⟨rfl, HB.out⟩
end Go.Proofs.Ytoephhhofkmgjab.samplesv

namespace Go.Proofs.Ytoephhhofkmgjab.samplest
open Go.RowKit own pp nums samplesv
set_option linter.unusedVariables false

set_option maxHeartbeats 1000000 in
theorem spec_sample (a : Option Addr) (rows : List (List Int)) (c : Nat) (a' : Option Addr) (zs : List Int) (c' : Nat) (w : World) (hr : grid.Reads w a rows) (hq : ints.Reads .i64 w a' zs) (hn : rows.length ≤ 1048576) (hz : zs.length ≤ 1048576) (hm : ∀ r ∈ rows, r.length ≤ 1048576) (ok : Bool) (h : Hid (sampleB rows zs = ok)) :
    Calls Try.prog 59 #[.agg #[.slice a rows.length c, .slice a' zs.length c']] w (RetB ok w) := by
  by_cases h16 : (16 : Int) < (rows.length : Int)
  · have e : ok = false := by rw [← h.out]; simp [sampleB]; omega
    have g1 : decide ((16 : Int) < (rows.length : Int)) = true := by simpa using h16
    clear h h16
    subst e
    have Hhr := Lib.hid hr
    have Hhq := Lib.hid hq
    have Hhm := Lib.hid hm
    clear hr hq hm
    go_enter Try.func59, Try.ntmps59
    go_wp2_with fail
    have x0_0 : (w.alloc (.cells #[.slice a rows.length c, .slice a' zs.length c'] 56)).cell? ⟨w.heap.size, 0, none⟩ = some (.slice a rows.length c) := cell_new _ _ _ (by simp) rfl
    have x0_1 : (w.alloc (.cells #[.slice a rows.length c, .slice a' zs.length c'] 56)).cell? ⟨w.heap.size, 1, none⟩ = some (.slice a' zs.length c') := cell_new _ _ _ (by simp) rfl
    have HB0 := Lib.hid (below_alloc w (.cells #[.slice a rows.length c, .slice a' zs.length c'] 56))
    have s0 : w.heap.size + 1 ≤ (w.alloc (.cells #[.slice a rows.length c, .slice a' zs.length c'] 56)).heap.size := by simp
    generalize hw : (w.alloc (.cells #[.slice a rows.length c, .slice a' zs.length c'] 56)) = w0 at *
    clear hw
    have n0_0 : w.heap.size < w0.heap.size := by omega
    go_ret
    exact ⟨rfl, HB0.out⟩
  by_cases hl : zs.length = rows.length
  · cases hx : labelsB zs
    · have e : ok = false := by rw [← h.out]; simp [sampleB, hx]
      have HX := Lib.hid hx
      have g1 : decide ((16 : Int) < (rows.length : Int)) = false := by simpa using h16
      have g2 : ((zs.length : Int) != (rows.length : Int)) = false := by simp [hl]
      have HL := Lib.hid hl
      clear h h16 hx hl
      subst e
      have Hhr := Lib.hid hr
      have Hhq := Lib.hid hq
      have Hhm := Lib.hid hm
      clear hr hq hm
      go_enter Try.func59, Try.ntmps59
      go_wp2_with fail
      have x0_0 : (w.alloc (.cells #[.slice a rows.length c, .slice a' zs.length c'] 56)).cell? ⟨w.heap.size, 0, none⟩ = some (.slice a rows.length c) := cell_new _ _ _ (by simp) rfl
      have x0_1 : (w.alloc (.cells #[.slice a rows.length c, .slice a' zs.length c'] 56)).cell? ⟨w.heap.size, 1, none⟩ = some (.slice a' zs.length c') := cell_new _ _ _ (by simp) rfl
      have HB0 := Lib.hid (below_alloc w (.cells #[.slice a rows.length c, .slice a' zs.length c'] 56))
      have s0 : w.heap.size + 1 ≤ (w.alloc (.cells #[.slice a rows.length c, .slice a' zs.length c'] 56)).heap.size := by simp
      generalize hw : (w.alloc (.cells #[.slice a rows.length c, .slice a' zs.length c'] 56)) = w0 at *
      clear hw
      have n0_0 : w.heap.size < w0.heap.size := by omega
      refine (spec_labels a' zs c' _ (Hhq.out.below HB0.out) hz false HX).mono ?_
      rintro e w' ⟨rfl, rfl⟩
      go_wp2_with fail
      go_ret
      exact ⟨rfl, HB0.out⟩
    · exact spec_sample_loop a rows c a' zs c' w hr hq (by omega) (Lib.hid hl) hm (Lib.hid hx) ok (Lib.hid (by rw [← h.out]; simp [sampleB, hx, hl, show rows.length ≤ 16 by omega]))
  · have e : ok = false := by rw [← h.out]; simp [sampleB, hl]
    have g1 : decide ((16 : Int) < (rows.length : Int)) = false := by simpa using h16
    have g2 : ((zs.length : Int) != (rows.length : Int)) = true := by simp; omega
    have HL := Lib.hid hl
    clear h h16 hl
    subst e
    have Hhr := Lib.hid hr
    have Hhq := Lib.hid hq
    have Hhm := Lib.hid hm
    clear hr hq hm
    go_enter Try.func59, Try.ntmps59
    go_wp2_with fail
    have x0_0 : (w.alloc (.cells #[.slice a rows.length c, .slice a' zs.length c'] 56)).cell? ⟨w.heap.size, 0, none⟩ = some (.slice a rows.length c) := cell_new _ _ _ (by simp) rfl
    have x0_1 : (w.alloc (.cells #[.slice a rows.length c, .slice a' zs.length c'] 56)).cell? ⟨w.heap.size, 1, none⟩ = some (.slice a' zs.length c') := cell_new _ _ _ (by simp) rfl
    have HB0 := Lib.hid (below_alloc w (.cells #[.slice a rows.length c, .slice a' zs.length c'] 56))
    have s0 : w.heap.size + 1 ≤ (w.alloc (.cells #[.slice a rows.length c, .slice a' zs.length c'] 56)).heap.size := by simp
    generalize hw : (w.alloc (.cells #[.slice a rows.length c, .slice a' zs.length c'] 56)) = w0 at *
    clear hw
    have n0_0 : w.heap.size < w0.heap.size := by omega
    go_ret
    exact ⟨rfl, HB0.out⟩
set_option maxRecDepth 100000 in
set_option maxHeartbeats 2000000 in
theorem impl_sample (a : Option Addr) (rows : List (List Int)) (c : Nat) (a' : Option Addr) (zs : List Int) (c' : Nat) (w : World) (hr : grid.Reads w a rows) (hq : ints.Reads .i64 w a' zs) (hn : rows.length ≤ 1048576) (hz : zs.length ≤ 1048576) (hm : ∀ r ∈ rows, r.length ≤ 1048576) (ok : Bool) (h : Hid (sampleB rows zs = ok)) :
    Calls Try.prog 64 #[.agg #[.slice a rows.length c, .slice a' zs.length c']] w (RetB ok w) := by
  by_cases h16 : (16 : Int) < (rows.length : Int)
  · have e : ok = false := by rw [← h.out]; simp [sampleB]; omega
    have g1 : decide ((16 : Int) < (rows.length : Int)) = true := by simpa using h16
    clear h h16
    subst e
    have Hhr := Lib.hid hr
    have Hhq := Lib.hid hq
    have Hhm := Lib.hid hm
    clear hr hq hm
    go_enter Try.func64, Try.ntmps64
    go_wp2_with fail
    have x0_0 : (w.alloc (.cells #[.slice a rows.length c, .slice a' zs.length c'] 56)).cell? ⟨w.heap.size, 0, none⟩ = some (.slice a rows.length c) := cell_new _ _ _ (by simp) rfl
    have x0_1 : (w.alloc (.cells #[.slice a rows.length c, .slice a' zs.length c'] 56)).cell? ⟨w.heap.size, 1, none⟩ = some (.slice a' zs.length c') := cell_new _ _ _ (by simp) rfl
    have HB0 := Lib.hid (below_alloc w (.cells #[.slice a rows.length c, .slice a' zs.length c'] 56))
    have s0 : w.heap.size + 1 ≤ (w.alloc (.cells #[.slice a rows.length c, .slice a' zs.length c'] 56)).heap.size := by simp
    generalize hw : (w.alloc (.cells #[.slice a rows.length c, .slice a' zs.length c'] 56)) = w0 at *
    clear hw
    have n0_0 : w.heap.size < w0.heap.size := by omega
    go_ret
    exact ⟨rfl, HB0.out⟩
  by_cases hl : zs.length = rows.length
  · have g1 : decide ((16 : Int) < (rows.length : Int)) = false := by simpa using h16
    have g2 : ((zs.length : Int) != (rows.length : Int)) = false := by simp [hl]
    have HL := Lib.hid hl
    have HH := Lib.hid (show (labelsB zs && rowsB rows) = ok by rw [← h.out]; simp [sampleB, hl, show rows.length ≤ 16 by omega])
    clear h h16 hl
    have Hhr := Lib.hid hr
    have Hhq := Lib.hid hq
    have Hhm := Lib.hid hm
    clear hr hq hm
    go_enter Try.func64, Try.ntmps64
    go_wp2_with fail
    have x0_0 : (w.alloc (.cells #[.slice a rows.length c, .slice a' zs.length c'] 56)).cell? ⟨w.heap.size, 0, none⟩ = some (.slice a rows.length c) := cell_new _ _ _ (by simp) rfl
    have x0_1 : (w.alloc (.cells #[.slice a rows.length c, .slice a' zs.length c'] 56)).cell? ⟨w.heap.size, 1, none⟩ = some (.slice a' zs.length c') := cell_new _ _ _ (by simp) rfl
    have HB0 := Lib.hid (below_alloc w (.cells #[.slice a rows.length c, .slice a' zs.length c'] 56))
    have s0 : w.heap.size + 1 ≤ (w.alloc (.cells #[.slice a rows.length c, .slice a' zs.length c'] 56)).heap.size := by simp
    generalize hw : (w.alloc (.cells #[.slice a rows.length c, .slice a' zs.length c'] 56)) = w0 at *
    clear hw
    have n0_0 : w.heap.size < w0.heap.size := by omega
    clear g1 g2
    have hrw := Hhr.out.below HB0.out
    have hqw := Hhq.out.below HB0.out
    go_loop [21] (fun i => ∃ k : Nat, k ≤ rows.length ∧ i = .int .i64 k ∧ Hid (∀ j, j < k → rowB rows (rows.getD j []) = true ∧ labelB (zs.getD j 0) = true)) (fun i => rows.length - (intOf i).toNat)
    case atStart => exact ⟨0, Nat.zero_le _, rfl, fun j hj => by omega⟩
    case round =>
      obtain ⟨k, hk, rfl, hj⟩ := hrel
      by_cases hlt : k < rows.length
      · obtain ⟨b, off, p, q, rfl, hb, hc, hpq, hrow⟩ := hrw.at hlt
        obtain ⟨b0, off0, p0, q0, e0, hb0, hc0, hpq0, hrow0⟩ := hrw.at (k := 0) (by omega)
        cases e0
        simp only [Nat.add_zero] at hc0
        obtain ⟨b1, off1, rfl, hb1, hc1⟩ := hqw.at (k := k) (by have := HL.out; omega)
        have hml : (rows.getD k []).length ≤ 1048576 := Hhm.out _ (getD_mem rows [] k hlt)
        have hml0 : (rows.getD 0 []).length ≤ 1048576 := Hhm.out _ (getD_mem rows [] 0 (by omega))
        have HC := Lib.hid (show ∀ (ok : Bool), Hid (pointB (rows.getD k []) = ok) → Calls Try.prog 100 #[.slice p (rows.getD k []).length q] w0 (Says ok w0) from fun ok h => impl_point p _ q _ hrow hml ok h)
        have HJ := Lib.hid (show rowB rows (rows.getD k []) = true → labelB (zs.getD k 0) = true → ∀ j, j < k + 1 → rowB rows (rows.getD j []) = true ∧ labelB (zs.getD j 0) = true from fun hx hy j h => by
            by_cases e : j = k
            · rw [e]; exact ⟨hx, hy⟩
            · exact hj.out j (by omega))
        have HN1 := Lib.hid (show rowB rows (rows.getD k []) = false → rowsB rows = false from fun hx => all_false _ [] rows k hlt hx)
        have HN2 := Lib.hid (show labelB (zs.getD k 0) = false → labelsB zs = false from fun hx => all_false _ 0 zs k (by have := HL.out; omega) hx)
        have HR := Lib.hid (show rowB rows (rows.getD k []) = (pointB (rows.getD k []) && decide ((rows.getD k []).length = (rows.getD 0 []).length)) from rfl)
        clear hj hrow hrow0 hpq hpq0 hrw hqw
        have i1 : (0 : Int) ≤ (k : Int) := by omega
        have i2 : (k : Int) < (rows.length : Int) := by omega
        have i3 : (0 : Int) < (rows.length : Int) := by omega
        have i4 : 0 < rows.length := by omega
        have i5 : (k : Int) < (zs.length : Int) := by have := HL.out; omega
        generalize rowB rows (rows.getD k []) = rb at *
        generalize rows.getD k [] = r at *
        generalize rows.getD 0 [] = r0 at *
        generalize zs.getD k 0 = z at *
        cases hp : pointB r
        · have e : ok = false := by rw [← HH.out, HN1.out (by rw [HR.out, hp]; rfl)]; simp
          have HP := Lib.hid hp
          clear HH hp
          subst e
          go_wp2_with fail
          refine (HC.out false HP).mono ?_
          rintro e w' ⟨rfl, rfl⟩
          go_wp2_with fail
          go_ret
          exact ⟨rfl, HB0.out⟩
        · by_cases hll : r.length = r0.length
          · have g1 : ((r.length : Int) != (r0.length : Int)) = false := by simp [hll]
            have HP := Lib.hid hp
            have HX := Lib.hid (show rb = true by rw [HR.out, hp, hll]; simp)
            clear hp hll
            cases hy : labelB z
            · have e : ok = false := by rw [← HH.out, HN2.out hy]; simp
              have HY := Lib.hid hy
              clear HH hy
              subst e
              go_wp2_with fail
              refine (HC.out true HP).mono ?_
              rintro e w' ⟨rfl, rfl⟩
              go_wp2_with fail
              refine (impl_label z _ false HY).mono ?_
              rintro e w' ⟨rfl, rfl⟩
              go_wp2_with fail
              go_ret
              exact ⟨rfl, HB0.out⟩
            · have HY := Lib.hid hy
              have HJ' := Lib.hid (HJ.out HX.out hy)
              clear hy
              go_wp2_with fail
              refine (HC.out true HP).mono ?_
              rintro e w' ⟨rfl, rfl⟩
              go_wp2_with fail
              refine (impl_label z _ true HY).mono ?_
              rintro e w' ⟨rfl, rfl⟩
              go_wp2_with fail
              go_round
              case rel => exact ⟨k + 1, by omega, by go_num, HJ'⟩
              case measure => simp [intOf]; omega
          · have g1 : ((r.length : Int) != (r0.length : Int)) = true := by simp; omega
            have e : ok = false := by rw [← HH.out, HN1.out (by rw [HR.out]; simp [hll])]; simp
            have HP := Lib.hid hp
            clear HH hp hll
            subst e
            go_wp2_with fail
            refine (HC.out true HP).mono ?_
            rintro e w' ⟨rfl, rfl⟩
            go_wp2_with fail
            go_ret
            exact ⟨rfl, HB0.out⟩
      · have : k = rows.length := by omega
        have e1 : rowsB rows = true := all_true _ [] rows (fun j hj' => (hj.out j (by omega)).1)
        have e2 : labelsB zs = true := all_true _ 0 zs (fun j hj' => (hj.out j (by have := HL.out; omega)).2)
        have e : ok = true := by rw [← HH.out, e1, e2]; rfl
        clear HH hj e1 e2 hrw hqw
        subst e
        go_wp2_with fail
        go_ret
        exact ⟨rfl, HB0.out⟩
  · have e : ok = false := by rw [← h.out]; simp [sampleB, hl]
    have g1 : decide ((16 : Int) < (rows.length : Int)) = false := by simpa using h16
    have g2 : ((zs.length : Int) != (rows.length : Int)) = true := by simp; omega
    have HL := Lib.hid hl
    clear h h16 hl
    subst e
    have Hhr := Lib.hid hr
    have Hhq := Lib.hid hq
    have Hhm := Lib.hid hm
    clear hr hq hm
    go_enter Try.func64, Try.ntmps64
    go_wp2_with fail
    have x0_0 : (w.alloc (.cells #[.slice a rows.length c, .slice a' zs.length c'] 56)).cell? ⟨w.heap.size, 0, none⟩ = some (.slice a rows.length c) := cell_new _ _ _ (by simp) rfl
    have x0_1 : (w.alloc (.cells #[.slice a rows.length c, .slice a' zs.length c'] 56)).cell? ⟨w.heap.size, 1, none⟩ = some (.slice a' zs.length c') := cell_new _ _ _ (by simp) rfl
    have HB0 := Lib.hid (below_alloc w (.cells #[.slice a rows.length c, .slice a' zs.length c'] 56))
    have s0 : w.heap.size + 1 ≤ (w.alloc (.cells #[.slice a rows.length c, .slice a' zs.length c'] 56)).heap.size := by simp
    generalize hw : (w.alloc (.cells #[.slice a rows.length c, .slice a' zs.length c'] 56)) = w0 at *
    clear hw
    have n0_0 : w.heap.size < w0.heap.size := by omega
    go_ret
    exact ⟨rfl, HB0.out⟩
end Go.Proofs.Ytoephhhofkmgjab.samplest
