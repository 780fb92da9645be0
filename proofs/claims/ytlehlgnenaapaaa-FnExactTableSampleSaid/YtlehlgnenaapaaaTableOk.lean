/- The walks of the tests of a table: the model's and the program's. -/
import Derived.Test.YtlehlgnenaapaaaTold
import Derived.Test.YtlehlgnenaapaaaPartSample
namespace Go.Proofs.Ytlehlgnenaapaaa.tableok
open Go.RowKit own own1 pp nums range samplesv part bitw told
set_option linter.unusedVariables false
set_option linter.unusedSimpArgs false

theorem size_ok {n : Nat} {zs : List Int} (h4 : n ≤ 4) (hm : zs.length ≤ 16) : (toldR n zs.length).length + grid.tot (toldR n zs.length) + (toldL zs zs.length).length ≤ 1048576 := by
  have ht := partsample.tot_le 4 (toldR n zs.length) fun r hr => by
    unfold toldR at hr
    rw [List.mem_map] at hr
    obtain ⟨j, _, rfl⟩ := hr
    rw [bitsTo_length]; exact h4
  rw [toldR_length] at ht ⊢
  rw [toldL_length _ _ (Nat.le_refl _)]
  omega
set_option maxHeartbeats 1000000 in
theorem spec_hi (n : Int) (a : Option Addr) (zs : List Int) (c : Nat) (w : World) (hr : ints.Reads .i64 w a zs) (hhi : 4 < n) :
    Calls Try.prog 68 #[.int .i64 n, .slice a zs.length c] w (fun e w' => e = .returned (.bool false) ∧ ∃ m, w' = w.drewN m) := by
  have HX : Hid ((decide (0 ≤ n) && decide (n ≤ 4)) = false) := Lib.hid (by rw [decide_eq_false (show ¬ n ≤ 4 by omega), Bool.and_false])
  go_enter Try.func68, Try.ntmps68
  go_wp2_with fail
  refine (in_any _ _ _ _ false HX).mono ?_
  rintro e w' ⟨rfl, rfl⟩
  go_wp2_with fail
  go_ret
  exact ⟨rfl, 0, rfl⟩
set_option maxHeartbeats 1000000 in
theorem spec_len_1 (a : Option Addr) (zs : List Int) (c : Nat) (w : World) (hr : ints.Reads .i64 w a zs) (hl : zs.length ≠ 2) :
    Calls Try.prog 68 #[.int .i64 1, .slice a zs.length c] w (fun e w' => e = .returned (.bool false) ∧ ∃ m, w' = w.drewN m) := by
  have HX : Hid ((decide ((0 : Int) ≤ 1) && decide ((1 : Int) ≤ 4)) = true) := Lib.hid (by decide)
  have g1 : ((zs.length : Int) != 2) = true := by simp; omega
  clear hl
  go_enter Try.func68, Try.ntmps68
  go_wp2_with fail
  refine (in_any _ _ _ _ true HX).mono ?_
  rintro e w' ⟨rfl, rfl⟩
  go_wp2_with fail
  go_ret
  exact ⟨rfl, 0, rfl⟩
set_option maxHeartbeats 1000000 in
theorem spec_tab_1 (a : Option Addr) (zs : List Int) (c : Nat) (w : World) (hr : ints.Reads .i64 w a zs) (hl : zs.length = 2) (ok : Bool) (h : Hid (numsR 0 1 zs = ok)) :
    Calls Try.prog 68 #[.int .i64 1, .slice a zs.length c] w (fun e w' => e = .returned (.bool ok) ∧ ∃ m, w' = w.drewN m) := by
  have HX : Hid ((decide ((0 : Int) ≤ 1) && decide ((1 : Int) ≤ 4)) = true) := Lib.hid (by decide)
  have g1 : ((zs.length : Int) != 2) = false := by simp; omega
  have hn : zs.length ≤ 16 := by omega
  clear hl
  go_enter Try.func68, Try.ntmps68
  go_wp2_with fail
  refine (in_any _ _ _ _ true HX).mono ?_
  rintro e w' ⟨rfl, rfl⟩
  go_wp2_with fail
  go_loop [5] (fun i => ∃ k : Nat, k ≤ zs.length ∧ i = .int .i64 k ∧ Hid (∀ j, j < k → inR 0 1 (zs.getD j 0) = true)) (fun i => zs.length - (intOf i).toNat)
  case atStart => exact ⟨0, Nat.zero_le _, rfl, fun j hj => by omega⟩
  case round =>
    obtain ⟨k, hk, rfl, hj⟩ := hrel
    by_cases hlt : k < zs.length
    · obtain ⟨b, off, rfl, hb, hc⟩ := hr.at hlt
      cases hx : inR 0 1 (zs.getD k 0)
      · have e : ok = false := by rw [← h.out]; unfold numsR; exact all_false _ 0 zs k hlt hx
        have HX := Lib.hid hx
        clear h hx
        subst e
        unfold inR at HX
        generalize hs : zs.getD k 0 = s at *
        clear hs
        go_wp2_with fail
        refine (in_any _ _ _ _ false HX).mono ?_
        rintro e w' ⟨rfl, rfl⟩
        go_wp2_with fail
        go_ret
        exact ⟨rfl, 0, rfl⟩
      · have HJ : Hid (∀ j, j < k + 1 → inR 0 1 (zs.getD j 0) = true) := fun j h => by
          by_cases e : j = k
          · rw [e]; exact hx
          · exact hj.out j (by omega)
        have HX := Lib.hid hx
        clear hx hj
        unfold inR at HX
        generalize hs : zs.getD k 0 = s at *
        clear hs
        go_wp2_with fail
        refine (in_any _ _ _ _ true HX).mono ?_
        rintro e w' ⟨rfl, rfl⟩
        go_wp2_with fail
        go_round
        case rel => exact ⟨k + 1, by omega, by go_num, HJ⟩
        case measure => simp [intOf]; omega
    · have : k = zs.length := by omega
      have e : ok = true := by rw [← h.out]; unfold numsR; exact all_true _ 0 zs (fun j hj' => hj.out j (by omega))
      clear h hj
      subst this
      subst e
      go_wp2_with fail
      go_ret
      exact ⟨rfl, 0, rfl⟩
set_option maxHeartbeats 1000000 in
theorem spec_len_2 (a : Option Addr) (zs : List Int) (c : Nat) (w : World) (hr : ints.Reads .i64 w a zs) (hl : zs.length ≠ 4) :
    Calls Try.prog 68 #[.int .i64 2, .slice a zs.length c] w (fun e w' => e = .returned (.bool false) ∧ ∃ m, w' = w.drewN m) := by
  have HX : Hid ((decide ((0 : Int) ≤ 2) && decide ((2 : Int) ≤ 4)) = true) := Lib.hid (by decide)
  have g1 : ((zs.length : Int) != 4) = true := by simp; omega
  clear hl
  go_enter Try.func68, Try.ntmps68
  go_wp2_with fail
  refine (in_any _ _ _ _ true HX).mono ?_
  rintro e w' ⟨rfl, rfl⟩
  go_wp2_with fail
  go_ret
  exact ⟨rfl, 0, rfl⟩
set_option maxHeartbeats 1000000 in
theorem spec_tab_2 (a : Option Addr) (zs : List Int) (c : Nat) (w : World) (hr : ints.Reads .i64 w a zs) (hl : zs.length = 4) (ok : Bool) (h : Hid (numsR 0 1 zs = ok)) :
    Calls Try.prog 68 #[.int .i64 2, .slice a zs.length c] w (fun e w' => e = .returned (.bool ok) ∧ ∃ m, w' = w.drewN m) := by
  have HX : Hid ((decide ((0 : Int) ≤ 2) && decide ((2 : Int) ≤ 4)) = true) := Lib.hid (by decide)
  have g1 : ((zs.length : Int) != 4) = false := by simp; omega
  have hn : zs.length ≤ 16 := by omega
  clear hl
  go_enter Try.func68, Try.ntmps68
  go_wp2_with fail
  refine (in_any _ _ _ _ true HX).mono ?_
  rintro e w' ⟨rfl, rfl⟩
  go_wp2_with fail
  go_loop [5] (fun i => ∃ k : Nat, k ≤ zs.length ∧ i = .int .i64 k ∧ Hid (∀ j, j < k → inR 0 1 (zs.getD j 0) = true)) (fun i => zs.length - (intOf i).toNat)
  case atStart => exact ⟨0, Nat.zero_le _, rfl, fun j hj => by omega⟩
  case round =>
    obtain ⟨k, hk, rfl, hj⟩ := hrel
    by_cases hlt : k < zs.length
    · obtain ⟨b, off, rfl, hb, hc⟩ := hr.at hlt
      cases hx : inR 0 1 (zs.getD k 0)
      · have e : ok = false := by rw [← h.out]; unfold numsR; exact all_false _ 0 zs k hlt hx
        have HX := Lib.hid hx
        clear h hx
        subst e
        unfold inR at HX
        generalize hs : zs.getD k 0 = s at *
        clear hs
        go_wp2_with fail
        refine (in_any _ _ _ _ false HX).mono ?_
        rintro e w' ⟨rfl, rfl⟩
        go_wp2_with fail
        go_ret
        exact ⟨rfl, 0, rfl⟩
      · have HJ : Hid (∀ j, j < k + 1 → inR 0 1 (zs.getD j 0) = true) := fun j h => by
          by_cases e : j = k
          · rw [e]; exact hx
          · exact hj.out j (by omega)
        have HX := Lib.hid hx
        clear hx hj
        unfold inR at HX
        generalize hs : zs.getD k 0 = s at *
        clear hs
        go_wp2_with fail
        refine (in_any _ _ _ _ true HX).mono ?_
        rintro e w' ⟨rfl, rfl⟩
        go_wp2_with fail
        go_round
        case rel => exact ⟨k + 1, by omega, by go_num, HJ⟩
        case measure => simp [intOf]; omega
    · have : k = zs.length := by omega
      have e : ok = true := by rw [← h.out]; unfold numsR; exact all_true _ 0 zs (fun j hj' => hj.out j (by omega))
      clear h hj
      subst this
      subst e
      go_wp2_with fail
      go_ret
      exact ⟨rfl, 0, rfl⟩
set_option maxHeartbeats 1000000 in
theorem spec_len_3 (a : Option Addr) (zs : List Int) (c : Nat) (w : World) (hr : ints.Reads .i64 w a zs) (hl : zs.length ≠ 8) :
    Calls Try.prog 68 #[.int .i64 3, .slice a zs.length c] w (fun e w' => e = .returned (.bool false) ∧ ∃ m, w' = w.drewN m) := by
  have HX : Hid ((decide ((0 : Int) ≤ 3) && decide ((3 : Int) ≤ 4)) = true) := Lib.hid (by decide)
  have g1 : ((zs.length : Int) != 8) = true := by simp; omega
  clear hl
  go_enter Try.func68, Try.ntmps68
  go_wp2_with fail
  refine (in_any _ _ _ _ true HX).mono ?_
  rintro e w' ⟨rfl, rfl⟩
  go_wp2_with fail
  go_ret
  exact ⟨rfl, 0, rfl⟩
set_option maxHeartbeats 1000000 in
theorem spec_tab_3 (a : Option Addr) (zs : List Int) (c : Nat) (w : World) (hr : ints.Reads .i64 w a zs) (hl : zs.length = 8) (ok : Bool) (h : Hid (numsR 0 1 zs = ok)) :
    Calls Try.prog 68 #[.int .i64 3, .slice a zs.length c] w (fun e w' => e = .returned (.bool ok) ∧ ∃ m, w' = w.drewN m) := by
  have HX : Hid ((decide ((0 : Int) ≤ 3) && decide ((3 : Int) ≤ 4)) = true) := Lib.hid (by decide)
  have g1 : ((zs.length : Int) != 8) = false := by simp; omega
  have hn : zs.length ≤ 16 := by omega
  clear hl
  go_enter Try.func68, Try.ntmps68
  go_wp2_with fail
  refine (in_any _ _ _ _ true HX).mono ?_
  rintro e w' ⟨rfl, rfl⟩
  go_wp2_with fail
  go_loop [5] (fun i => ∃ k : Nat, k ≤ zs.length ∧ i = .int .i64 k ∧ Hid (∀ j, j < k → inR 0 1 (zs.getD j 0) = true)) (fun i => zs.length - (intOf i).toNat)
  case atStart => exact ⟨0, Nat.zero_le _, rfl, fun j hj => by omega⟩
  case round =>
    obtain ⟨k, hk, rfl, hj⟩ := hrel
    by_cases hlt : k < zs.length
    · obtain ⟨b, off, rfl, hb, hc⟩ := hr.at hlt
      cases hx : inR 0 1 (zs.getD k 0)
      · have e : ok = false := by rw [← h.out]; unfold numsR; exact all_false _ 0 zs k hlt hx
        have HX := Lib.hid hx
        clear h hx
        subst e
        unfold inR at HX
        generalize hs : zs.getD k 0 = s at *
        clear hs
        go_wp2_with fail
        refine (in_any _ _ _ _ false HX).mono ?_
        rintro e w' ⟨rfl, rfl⟩
        go_wp2_with fail
        go_ret
        exact ⟨rfl, 0, rfl⟩
      · have HJ : Hid (∀ j, j < k + 1 → inR 0 1 (zs.getD j 0) = true) := fun j h => by
          by_cases e : j = k
          · rw [e]; exact hx
          · exact hj.out j (by omega)
        have HX := Lib.hid hx
        clear hx hj
        unfold inR at HX
        generalize hs : zs.getD k 0 = s at *
        clear hs
        go_wp2_with fail
        refine (in_any _ _ _ _ true HX).mono ?_
        rintro e w' ⟨rfl, rfl⟩
        go_wp2_with fail
        go_round
        case rel => exact ⟨k + 1, by omega, by go_num, HJ⟩
        case measure => simp [intOf]; omega
    · have : k = zs.length := by omega
      have e : ok = true := by rw [← h.out]; unfold numsR; exact all_true _ 0 zs (fun j hj' => hj.out j (by omega))
      clear h hj
      subst this
      subst e
      go_wp2_with fail
      go_ret
      exact ⟨rfl, 0, rfl⟩
set_option maxHeartbeats 1000000 in
theorem spec_len_4 (a : Option Addr) (zs : List Int) (c : Nat) (w : World) (hr : ints.Reads .i64 w a zs) (hl : zs.length ≠ 16) :
    Calls Try.prog 68 #[.int .i64 4, .slice a zs.length c] w (fun e w' => e = .returned (.bool false) ∧ ∃ m, w' = w.drewN m) := by
  have HX : Hid ((decide ((0 : Int) ≤ 4) && decide ((4 : Int) ≤ 4)) = true) := Lib.hid (by decide)
  have g1 : ((zs.length : Int) != 16) = true := by simp; omega
  clear hl
  go_enter Try.func68, Try.ntmps68
  go_wp2_with fail
  refine (in_any _ _ _ _ true HX).mono ?_
  rintro e w' ⟨rfl, rfl⟩
  go_wp2_with fail
  go_ret
  exact ⟨rfl, 0, rfl⟩
set_option maxHeartbeats 1000000 in
theorem spec_tab_4 (a : Option Addr) (zs : List Int) (c : Nat) (w : World) (hr : ints.Reads .i64 w a zs) (hl : zs.length = 16) (ok : Bool) (h : Hid (numsR 0 1 zs = ok)) :
    Calls Try.prog 68 #[.int .i64 4, .slice a zs.length c] w (fun e w' => e = .returned (.bool ok) ∧ ∃ m, w' = w.drewN m) := by
  have HX : Hid ((decide ((0 : Int) ≤ 4) && decide ((4 : Int) ≤ 4)) = true) := Lib.hid (by decide)
  have g1 : ((zs.length : Int) != 16) = false := by simp; omega
  have hn : zs.length ≤ 16 := by omega
  clear hl
  go_enter Try.func68, Try.ntmps68
  go_wp2_with fail
  refine (in_any _ _ _ _ true HX).mono ?_
  rintro e w' ⟨rfl, rfl⟩
  go_wp2_with fail
  go_loop [5] (fun i => ∃ k : Nat, k ≤ zs.length ∧ i = .int .i64 k ∧ Hid (∀ j, j < k → inR 0 1 (zs.getD j 0) = true)) (fun i => zs.length - (intOf i).toNat)
  case atStart => exact ⟨0, Nat.zero_le _, rfl, fun j hj => by omega⟩
  case round =>
    obtain ⟨k, hk, rfl, hj⟩ := hrel
    by_cases hlt : k < zs.length
    · obtain ⟨b, off, rfl, hb, hc⟩ := hr.at hlt
      cases hx : inR 0 1 (zs.getD k 0)
      · have e : ok = false := by rw [← h.out]; unfold numsR; exact all_false _ 0 zs k hlt hx
        have HX := Lib.hid hx
        clear h hx
        subst e
        unfold inR at HX
        generalize hs : zs.getD k 0 = s at *
        clear hs
        go_wp2_with fail
        refine (in_any _ _ _ _ false HX).mono ?_
        rintro e w' ⟨rfl, rfl⟩
        go_wp2_with fail
        go_ret
        exact ⟨rfl, 0, rfl⟩
      · have HJ : Hid (∀ j, j < k + 1 → inR 0 1 (zs.getD j 0) = true) := fun j h => by
          by_cases e : j = k
          · rw [e]; exact hx
          · exact hj.out j (by omega)
        have HX := Lib.hid hx
        clear hx hj
        unfold inR at HX
        generalize hs : zs.getD k 0 = s at *
        clear hs
        go_wp2_with fail
        refine (in_any _ _ _ _ true HX).mono ?_
        rintro e w' ⟨rfl, rfl⟩
        go_wp2_with fail
        go_round
        case rel => exact ⟨k + 1, by omega, by go_num, HJ⟩
        case measure => simp [intOf]; omega
    · have : k = zs.length := by omega
      have e : ok = true := by rw [← h.out]; unfold numsR; exact all_true _ 0 zs (fun j hj' => hj.out j (by omega))
      clear h hj
      subst this
      subst e
      go_wp2_with fail
      go_ret
      exact ⟨rfl, 0, rfl⟩
set_option maxHeartbeats 1000000 in
theorem impl_hi (n : Int) (a : Option Addr) (zs : List Int) (c : Nat) (w : World) (hr : ints.Reads .i64 w a zs) (hhi : 4 < n) :
    Calls Try.prog 67 #[.int .i64 n, .slice a zs.length c] w (fun e w' => e = .returned (.bool false) ∧ ∃ m, w' = w.drewN m) := by
  have g1 : ¬ (n < 0) := by omega
  have g2 : n > 4 := hhi
  go_enter Try.func67, Try.ntmps67
  go_wp2_with fail
  go_ret
  exact ⟨rfl, 0, rfl⟩
set_option maxHeartbeats 1000000 in
theorem impl_len_1 (a : Option Addr) (zs : List Int) (c : Nat) (w : World) (hr : ints.Reads .i64 w a zs) (hl : zs.length ≠ 2) :
    Calls Try.prog 67 #[.int .i64 1, .slice a zs.length c] w (fun e w' => e = .returned (.bool false) ∧ ∃ m, w' = w.drewN m) := by
  have g1 : ((zs.length : Int) != 2) = true := by simp; omega
  clear hl
  go_enter Try.func67, Try.ntmps67
  go_wp2_with fail
  go_ret
  exact ⟨rfl, 0, rfl⟩
set_option maxHeartbeats 1000000 in
theorem impl_tab_1 (a : Option Addr) (zs : List Int) (c : Nat) (w : World) (hr : ints.Reads .i64 w a zs) (hl : zs.length = 2) (ok : Bool) (h : Hid (numsR 0 1 zs = ok)) :
    Calls Try.prog 67 #[.int .i64 1, .slice a zs.length c] w (fun e w' => e = .returned (.bool ok) ∧ ∃ m, w' = w.drewN m) := by
  have g1 : ((zs.length : Int) != 2) = false := by simp; omega
  have hn : zs.length ≤ 16 := by omega
  clear hl
  have HR := Lib.hid hr
  clear hr
  go_enter Try.func67, Try.ntmps67
  go_wp2_with fail
  refine (range.impl_bits a zs c _ HR.out (by omega) ok h).mono ?_
  rintro e w' ⟨rfl, m, rfl⟩
  go_wp2_with fail
  go_ret
  exact ⟨rfl, m, rfl⟩
set_option maxHeartbeats 1000000 in
theorem impl_len_2 (a : Option Addr) (zs : List Int) (c : Nat) (w : World) (hr : ints.Reads .i64 w a zs) (hl : zs.length ≠ 4) :
    Calls Try.prog 67 #[.int .i64 2, .slice a zs.length c] w (fun e w' => e = .returned (.bool false) ∧ ∃ m, w' = w.drewN m) := by
  have g1 : ((zs.length : Int) != 4) = true := by simp; omega
  clear hl
  go_enter Try.func67, Try.ntmps67
  go_wp2_with fail
  go_ret
  exact ⟨rfl, 0, rfl⟩
set_option maxHeartbeats 1000000 in
theorem impl_tab_2 (a : Option Addr) (zs : List Int) (c : Nat) (w : World) (hr : ints.Reads .i64 w a zs) (hl : zs.length = 4) (ok : Bool) (h : Hid (numsR 0 1 zs = ok)) :
    Calls Try.prog 67 #[.int .i64 2, .slice a zs.length c] w (fun e w' => e = .returned (.bool ok) ∧ ∃ m, w' = w.drewN m) := by
  have g1 : ((zs.length : Int) != 4) = false := by simp; omega
  have hn : zs.length ≤ 16 := by omega
  clear hl
  have HR := Lib.hid hr
  clear hr
  go_enter Try.func67, Try.ntmps67
  go_wp2_with fail
  refine (range.impl_bits a zs c _ HR.out (by omega) ok h).mono ?_
  rintro e w' ⟨rfl, m, rfl⟩
  go_wp2_with fail
  go_ret
  exact ⟨rfl, m, rfl⟩
set_option maxHeartbeats 1000000 in
theorem impl_len_3 (a : Option Addr) (zs : List Int) (c : Nat) (w : World) (hr : ints.Reads .i64 w a zs) (hl : zs.length ≠ 8) :
    Calls Try.prog 67 #[.int .i64 3, .slice a zs.length c] w (fun e w' => e = .returned (.bool false) ∧ ∃ m, w' = w.drewN m) := by
  have g1 : ((zs.length : Int) != 8) = true := by simp; omega
  clear hl
  go_enter Try.func67, Try.ntmps67
  go_wp2_with fail
  go_ret
  exact ⟨rfl, 0, rfl⟩
set_option maxHeartbeats 1000000 in
theorem impl_tab_3 (a : Option Addr) (zs : List Int) (c : Nat) (w : World) (hr : ints.Reads .i64 w a zs) (hl : zs.length = 8) (ok : Bool) (h : Hid (numsR 0 1 zs = ok)) :
    Calls Try.prog 67 #[.int .i64 3, .slice a zs.length c] w (fun e w' => e = .returned (.bool ok) ∧ ∃ m, w' = w.drewN m) := by
  have g1 : ((zs.length : Int) != 8) = false := by simp; omega
  have hn : zs.length ≤ 16 := by omega
  clear hl
  have HR := Lib.hid hr
  clear hr
  go_enter Try.func67, Try.ntmps67
  go_wp2_with fail
  refine (range.impl_bits a zs c _ HR.out (by omega) ok h).mono ?_
  rintro e w' ⟨rfl, m, rfl⟩
  go_wp2_with fail
  go_ret
  exact ⟨rfl, m, rfl⟩
set_option maxHeartbeats 1000000 in
theorem impl_len_4 (a : Option Addr) (zs : List Int) (c : Nat) (w : World) (hr : ints.Reads .i64 w a zs) (hl : zs.length ≠ 16) :
    Calls Try.prog 67 #[.int .i64 4, .slice a zs.length c] w (fun e w' => e = .returned (.bool false) ∧ ∃ m, w' = w.drewN m) := by
  have g1 : ((zs.length : Int) != 16) = true := by simp; omega
  clear hl
  go_enter Try.func67, Try.ntmps67
  go_wp2_with fail
  go_ret
  exact ⟨rfl, 0, rfl⟩
set_option maxHeartbeats 1000000 in
theorem impl_tab_4 (a : Option Addr) (zs : List Int) (c : Nat) (w : World) (hr : ints.Reads .i64 w a zs) (hl : zs.length = 16) (ok : Bool) (h : Hid (numsR 0 1 zs = ok)) :
    Calls Try.prog 67 #[.int .i64 4, .slice a zs.length c] w (fun e w' => e = .returned (.bool ok) ∧ ∃ m, w' = w.drewN m) := by
  have g1 : ((zs.length : Int) != 16) = false := by simp; omega
  have hn : zs.length ≤ 16 := by omega
  clear hl
  have HR := Lib.hid hr
  clear hr
  go_enter Try.func67, Try.ntmps67
  go_wp2_with fail
  refine (range.impl_bits a zs c _ HR.out (by omega) ok h).mono ?_
  rintro e w' ⟨rfl, m, rfl⟩
  go_wp2_with fail
  go_ret
  exact ⟨rfl, m, rfl⟩
end Go.Proofs.Ytlehlgnenaapaaa.tableok
