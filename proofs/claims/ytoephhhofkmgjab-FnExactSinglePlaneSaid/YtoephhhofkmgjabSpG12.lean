/- Several texts in one. -/
import Derived.Shelf.GgClosure.Gives
import Derived.Test.YtoephhhofkmgjabSpG6
import Derived.Test.YtoephhhofkmgjabShelf
namespace Go.Proofs.Ytoephhhofkmgjab.range
open Go.RowKit own pp nums
set_option linter.unusedVariables false
set_option linter.unusedSimpArgs false

/-- Within lo..hi. -/
def inR (lo hi z : Int) : Bool := decide (lo ≤ z) && decide (z ≤ hi)
def numsR (lo hi : Int) (zs : List Int) : Bool := zs.all (inR lo hi)
theorem inR_iff (lo hi z : Int) : inR lo hi z = true ↔ lo ≤ z ∧ z ≤ hi := by simp [inR]
theorem numsR_at {lo hi : Int} {zs : List Int} (h : numsR lo hi zs = true) (k : Nat) (hk : k < zs.length) : lo ≤ zs.getD k 0 ∧ zs.getD k 0 ≤ hi := (inR_iff _ _ _).1 (all_at _ 0 zs h k hk)
def sharesB (zs : List Int) : Bool := (decide (1 ≤ (zs.length : Int)) && decide ((zs.length : Int) ≤ 8)) && numsR 0 16 zs
def rowsB' (n : Int) (zs : List Int) : Bool := numsR 0 1 zs && decide ((zs.length : Int) = n)
theorem cell_bang {w : World} {b off : Nat} {zs : List Int} (h : ∀ i, i < zs.length → w.cell? ⟨b, off + i, none⟩ = some (.int .i64 (zs.getD i 0))) : ∀ j, j < zs.length → w.cell? ⟨b, off + j, none⟩ = some (Value.int .i64 zs[j]!) := by
  intro j hj
  rw [h j hj, List.getD_eq_getElem?_getD, List.getElem?_eq_getElem hj]
  simp [hj]

theorem any_not (lo hi : Int) (zs : List Int) : zs.any (fun z => !(inR lo hi z)) = !(numsR lo hi zs) := by
  unfold numsR
  induction zs with
  | nil => rfl
  | cons z zs ih => simp [List.any_cons, List.all_cons, ih]

theorem bit_any (z : Int) (w : World) (ok : Bool) (h : Hid (inR 0 1 z = ok)) :
    Calls Try.prog 131 #[.int .i64 z] w (Says ok w) := by
  by_cases h0 : z = 0
  · have e : ok = true := by rw [← h.out, h0]; rfl
    clear h
    subst e
    subst h0
    go_enter Try.func131, Try.ntmps131
    go_wp2_with fail
    go_ret
    exact ⟨rfl, rfl⟩
  · by_cases h1 : z = 1
    · have e : ok = true := by rw [← h.out, h1]; rfl
      clear h
      subst e
      subst h1
      go_enter Try.func131, Try.ntmps131
      go_wp2_with fail
      go_ret
      exact ⟨rfl, rfl⟩
    · have e : ok = false := by
        rw [← h.out]
        cases hx : inR 0 1 z
        · rfl
        · have := (inR_iff _ _ _).1 hx; omega
      clear h
      subst e
      have g0 : (z == 0) = false := by rw [beq_eq_false_iff_ne]; exact h0
      have g1 : (z == 1) = false := by rw [beq_eq_false_iff_ne]; exact h1
      clear h0 h1
      go_enter Try.func131, Try.ntmps131
      go_wp2_with fail
      go_ret
      exact ⟨rfl, rfl⟩
theorem bits_at (w : World) : PredAt Try.prog 130 #[] (Value.int .i64) (fun z => !(inR 0 1 z)) w := by
  intro W z hB
  show Calls _ _ #[.int .i64 z] W _
  obtain ⟨ok, hx⟩ : ∃ ok, inR 0 1 z = ok := ⟨_, rfl⟩
  have HX := Lib.hid hx
  refine Calls.mono (show Calls Try.prog 130 #[.int .i64 z] W (fun e w' => e = .returned (.bool (!ok)) ∧ ∃ q, w' = W.drewN q) from ?_) (fun e w' h => ⟨by rw [h.1]; simp [HX.out], h.2⟩)
  clear hx hB
  go_enter Try.func130, Try.ntmps130
  go_wp2_with fail
  refine (bit_any z _ ok HX).mono ?_
  rintro e w' ⟨rfl, rfl⟩
  cases ok
  all_goals (go_wp2_with fail; go_ret; exact ⟨rfl, 0, rfl⟩)

set_option maxHeartbeats 1000000 in
theorem impl_bits (a : Option Addr) (zs : List Int) (c : Nat) (w : World) (hr : ints.Reads .i64 w a zs) (hn : zs.length ≤ 1048576) (ok : Bool) (h : Hid (numsR 0 1 zs = ok)) :
    Calls Try.prog 104 #[.slice a zs.length c] w (fun e w' => e = .returned (.bool ok) ∧ ∃ q, w' = w.drewN q) := by
  have HC := Lib.hid (show Calls Try.prog 129 #[.slice a zs.length c, .func (.func 130) #[] #[]] w fun e w' => e = .returned (.bool (!ok)) ∧ ∃ q, w' = w.drewN q from by
    rcases hr with rfl | ⟨b, off, rfl, hb, hc⟩
    · refine (Try.slices_ContainsFunc_empty (α := Int) _ _ _ _).mono ?_
      rintro e w' ⟨rfl, rfl⟩
      exact ⟨by rw [← h.out]; rfl, 0, rfl⟩
    · refine (Try.slices_ContainsFunc (α := Int) (Value.int .i64) (fun z => !(inR 0 1 z)) _ _ (enters_of Try.func130 (by kernel_rfl) rfl) b off zs.length c zs _ (bits_at _) (Nat.le_refl _) (by omega) (cell_bang hc)).mono ?_
      rintro e w' ⟨rfl, q, rfl⟩
      refine ⟨?_, _, rfl⟩
      rw [List.take_length, any_not, h.out])
  clear hr h
  go_enter Try.func104, Try.ntmps104
  go_wp2_with fail
  refine HC.out.mono ?_
  rintro e w' ⟨rfl, q, rfl⟩
  cases ok
  all_goals (go_wp2_with fail; go_ret; exact ⟨rfl, _, rfl⟩)
end Go.Proofs.Ytoephhhofkmgjab.range

namespace Go.Proofs.Ytoephhhofkmgjab.tab
open Go.RowKit own pp nums range
set_option linter.unusedVariables false
set_option linter.unusedSimpArgs false

/-- A table of n bits. -/
def tabB (n : Int) (zs : List Int) : Bool := (decide (0 ≤ n) && decide (n ≤ 4)) && (decide (zs.length = 2 ^ n.toNat) && numsR 0 1 zs)
theorem tab_iff (n : Int) (zs : List Int) : tabB n zs = true ↔ (0 ≤ n ∧ n ≤ 4) ∧ zs.length = 2 ^ n.toNat ∧ numsR 0 1 zs = true := by
  simp [tabB]
theorem tab_nat {n : Int} {zs : List Int} (h : tabB n zs = true) : ∃ m : Nat, n = m ∧ m ≤ 4 ∧ zs.length = 2 ^ m ∧ zs.length ≤ 16 ∧ numsR 0 1 zs = true := by
  obtain ⟨⟨h1, h2⟩, h3, h4⟩ := (tab_iff _ _).1 h
  have h5 : n.toNat = 0 ∨ n.toNat = 1 ∨ n.toNat = 2 ∨ n.toNat = 3 ∨ n.toNat = 4 := by omega
  refine ⟨n.toNat, by omega, by omega, h3, ?_, h4⟩
  rw [h3]
  rcases h5 with e | e | e | e | e <;> rw [e] <;> decide
theorem tab_at {n : Int} {zs : List Int} (h : tabB n zs = true) (k : Nat) (hk : k < zs.length) : zs.getD k 0 = 0 ∨ zs.getD k 0 = 1 := by
  have := numsR_at ((tab_iff _ _).1 h).2.2 k hk
  omega
theorem tab_no {n : Int} {zs : List Int} (h : n < 0 ∨ 4 < n) : tabB n zs = false := by
  cases hx : tabB n zs
  · rfl
  · have := ((tab_iff _ _).1 hx).1; omega
theorem tab_len {n : Nat} {zs : List Int} (h : zs.length ≠ 2 ^ n) : tabB n zs = false := by
  cases hx : tabB n zs
  · rfl
  · have := ((tab_iff _ _).1 hx).2.1; simp at this; omega
theorem tab_eq {n : Nat} {zs : List Int} (h4 : n ≤ 4) (h : zs.length = 2 ^ n) : tabB n zs = numsR 0 1 zs := by
  unfold tabB
  rw [decide_eq_true (show (0 : Int) ≤ n by omega), decide_eq_true (show (n : Int) ≤ 4 by omega), decide_eq_true (show zs.length = 2 ^ (n : Int).toNat by simpa using h)]
  rfl
set_option maxHeartbeats 1000000 in
theorem spec_lo (n : Int) (a : Option Addr) (zs : List Int) (c : Nat) (w : World) (hr : ints.Reads .i64 w a zs) (hlo : n < 0) :
    Calls Try.prog 70 #[.int .i64 n, .slice a zs.length c] w (fun e w' => e = .returned (.bool false) ∧ ∃ m, w' = w.drewN m) := by
  have HX : Hid ((decide (0 ≤ n) && decide (n ≤ 4)) = false) := Lib.hid (by rw [decide_eq_false (show ¬ 0 ≤ n by omega), Bool.false_and])
  go_enter Try.func70, Try.ntmps70
  go_wp2_with fail
  refine (in_any _ _ _ _ false HX).mono ?_
  rintro e w' ⟨rfl, rfl⟩
  go_wp2_with fail
  go_ret
  exact ⟨rfl, 0, rfl⟩
set_option maxHeartbeats 1000000 in
theorem spec_hi (n : Int) (a : Option Addr) (zs : List Int) (c : Nat) (w : World) (hr : ints.Reads .i64 w a zs) (hhi : 4 < n) :
    Calls Try.prog 70 #[.int .i64 n, .slice a zs.length c] w (fun e w' => e = .returned (.bool false) ∧ ∃ m, w' = w.drewN m) := by
  have HX : Hid ((decide (0 ≤ n) && decide (n ≤ 4)) = false) := Lib.hid (by rw [decide_eq_false (show ¬ n ≤ 4 by omega), Bool.and_false])
  go_enter Try.func70, Try.ntmps70
  go_wp2_with fail
  refine (in_any _ _ _ _ false HX).mono ?_
  rintro e w' ⟨rfl, rfl⟩
  go_wp2_with fail
  go_ret
  exact ⟨rfl, 0, rfl⟩
set_option maxHeartbeats 1000000 in
theorem spec_len_0 (a : Option Addr) (zs : List Int) (c : Nat) (w : World) (hr : ints.Reads .i64 w a zs) (hl : zs.length ≠ 1) :
    Calls Try.prog 70 #[.int .i64 0, .slice a zs.length c] w (fun e w' => e = .returned (.bool false) ∧ ∃ m, w' = w.drewN m) := by
  have HX : Hid ((decide ((0 : Int) ≤ 0) && decide ((0 : Int) ≤ 4)) = true) := Lib.hid (by decide)
  have g1 : ((zs.length : Int) != 1) = true := by simp; omega
  clear hl
  go_enter Try.func70, Try.ntmps70
  go_wp2_with fail
  refine (in_any _ _ _ _ true HX).mono ?_
  rintro e w' ⟨rfl, rfl⟩
  go_wp2_with fail
  go_ret
  exact ⟨rfl, 0, rfl⟩
set_option maxHeartbeats 1000000 in
theorem spec_tab_0 (a : Option Addr) (zs : List Int) (c : Nat) (w : World) (hr : ints.Reads .i64 w a zs) (hl : zs.length = 1) (ok : Bool) (h : Hid (numsR 0 1 zs = ok)) :
    Calls Try.prog 70 #[.int .i64 0, .slice a zs.length c] w (fun e w' => e = .returned (.bool ok) ∧ ∃ m, w' = w.drewN m) := by
  have HX : Hid ((decide ((0 : Int) ≤ 0) && decide ((0 : Int) ≤ 4)) = true) := Lib.hid (by decide)
  have g1 : ((zs.length : Int) != 1) = false := by simp; omega
  have hn : zs.length ≤ 16 := by omega
  clear hl
  go_enter Try.func70, Try.ntmps70
  go_wp2_with fail
  refine (in_any _ _ _ _ true HX).mono ?_
  rintro e w' ⟨rfl, rfl⟩
  go_wp2_with fail
  go_loop [5] (fun i => ∃ k : Nat, k ≤ zs.length ∧ i = .int .i64 k ∧ Hid (∀ j, j < k → inR 0 1 (zs.getD j 0) = true)) (fun i => zs.length - (intOf i).toNat)
  case atStart => exact ⟨0, Nat.zero_le _, rfl, fun j hj => by omega⟩
  case round =>
    obtain ⟨k, hk, rfl, hj⟩ := hrel
    by_cases hlt : k < zs.length
    · obtain ⟨b, off, rfl, hb, hc⟩ := hr.at hlt
      cases hx : inR 0 1 (zs.getD k 0)
      · have e : ok = false := by rw [← h.out]; unfold numsR; exact all_false _ 0 zs k hlt hx
        have HX := Lib.hid hx
        clear h hx
        subst e
        unfold inR at HX
        generalize hs : zs.getD k 0 = s at *
        clear hs
        go_wp2_with fail
        refine (in_any _ _ _ _ false HX).mono ?_
        rintro e w' ⟨rfl, rfl⟩
        go_wp2_with fail
        go_ret
        exact ⟨rfl, 0, rfl⟩
      · have HJ : Hid (∀ j, j < k + 1 → inR 0 1 (zs.getD j 0) = true) := fun j h => by
          by_cases e : j = k
          · rw [e]; exact hx
          · exact hj.out j (by omega)
        have HX := Lib.hid hx
        clear hx hj
        unfold inR at HX
        generalize hs : zs.getD k 0 = s at *
        clear hs
        go_wp2_with fail
        refine (in_any _ _ _ _ true HX).mono ?_
        rintro e w' ⟨rfl, rfl⟩
        go_wp2_with fail
        go_round
        case rel => exact ⟨k + 1, by omega, by go_num, HJ⟩
        case measure => simp [intOf]; omega
    · have : k = zs.length := by omega
      have e : ok = true := by rw [← h.out]; unfold numsR; exact all_true _ 0 zs (fun j hj' => hj.out j (by omega))
      clear h hj
      subst this
      subst e
      go_wp2_with fail
      go_ret
      exact ⟨rfl, 0, rfl⟩
set_option maxHeartbeats 1000000 in
theorem spec_len_1 (a : Option Addr) (zs : List Int) (c : Nat) (w : World) (hr : ints.Reads .i64 w a zs) (hl : zs.length ≠ 2) :
    Calls Try.prog 70 #[.int .i64 1, .slice a zs.length c] w (fun e w' => e = .returned (.bool false) ∧ ∃ m, w' = w.drewN m) := by
  have HX : Hid ((decide ((0 : Int) ≤ 1) && decide ((1 : Int) ≤ 4)) = true) := Lib.hid (by decide)
  have g1 : ((zs.length : Int) != 2) = true := by simp; omega
  clear hl
  go_enter Try.func70, Try.ntmps70
  go_wp2_with fail
  refine (in_any _ _ _ _ true HX).mono ?_
  rintro e w' ⟨rfl, rfl⟩
  go_wp2_with fail
  go_ret
  exact ⟨rfl, 0, rfl⟩
set_option maxHeartbeats 1000000 in
theorem spec_tab_1 (a : Option Addr) (zs : List Int) (c : Nat) (w : World) (hr : ints.Reads .i64 w a zs) (hl : zs.length = 2) (ok : Bool) (h : Hid (numsR 0 1 zs = ok)) :
    Calls Try.prog 70 #[.int .i64 1, .slice a zs.length c] w (fun e w' => e = .returned (.bool ok) ∧ ∃ m, w' = w.drewN m) := by
  have HX : Hid ((decide ((0 : Int) ≤ 1) && decide ((1 : Int) ≤ 4)) = true) := Lib.hid (by decide)
  have g1 : ((zs.length : Int) != 2) = false := by simp; omega
  have hn : zs.length ≤ 16 := by omega
  clear hl
  go_enter Try.func70, Try.ntmps70
  go_wp2_with fail
  refine (in_any _ _ _ _ true HX).mono ?_
  rintro e w' ⟨rfl, rfl⟩
  go_wp2_with fail
  go_loop [5] (fun i => ∃ k : Nat, k ≤ zs.length ∧ i = .int .i64 k ∧ Hid (∀ j, j < k → inR 0 1 (zs.getD j 0) = true)) (fun i => zs.length - (intOf i).toNat)
  case atStart => exact ⟨0, Nat.zero_le _, rfl, fun j hj => by omega⟩
  case round =>
    obtain ⟨k, hk, rfl, hj⟩ := hrel
    by_cases hlt : k < zs.length
    · obtain ⟨b, off, rfl, hb, hc⟩ := hr.at hlt
      cases hx : inR 0 1 (zs.getD k 0)
      · have e : ok = false := by rw [← h.out]; unfold numsR; exact all_false _ 0 zs k hlt hx
        have HX := Lib.hid hx
        clear h hx
        subst e
        unfold inR at HX
        generalize hs : zs.getD k 0 = s at *
        clear hs
        go_wp2_with fail
        refine (in_any _ _ _ _ false HX).mono ?_
        rintro e w' ⟨rfl, rfl⟩
        go_wp2_with fail
        go_ret
        exact ⟨rfl, 0, rfl⟩
      · have HJ : Hid (∀ j, j < k + 1 → inR 0 1 (zs.getD j 0) = true) := fun j h => by
          by_cases e : j = k
          · rw [e]; exact hx
          · exact hj.out j (by omega)
        have HX := Lib.hid hx
        clear hx hj
        unfold inR at HX
        generalize hs : zs.getD k 0 = s at *
        clear hs
        go_wp2_with fail
        refine (in_any _ _ _ _ true HX).mono ?_
        rintro e w' ⟨rfl, rfl⟩
        go_wp2_with fail
        go_round
        case rel => exact ⟨k + 1, by omega, by go_num, HJ⟩
        case measure => simp [intOf]; omega
    · have : k = zs.length := by omega
      have e : ok = true := by rw [← h.out]; unfold numsR; exact all_true _ 0 zs (fun j hj' => hj.out j (by omega))
      clear h hj
      subst this
      subst e
      go_wp2_with fail
      go_ret
      exact ⟨rfl, 0, rfl⟩
set_option maxHeartbeats 1000000 in
theorem spec_len_2 (a : Option Addr) (zs : List Int) (c : Nat) (w : World) (hr : ints.Reads .i64 w a zs) (hl : zs.length ≠ 4) :
    Calls Try.prog 70 #[.int .i64 2, .slice a zs.length c] w (fun e w' => e = .returned (.bool false) ∧ ∃ m, w' = w.drewN m) := by
  have HX : Hid ((decide ((0 : Int) ≤ 2) && decide ((2 : Int) ≤ 4)) = true) := Lib.hid (by decide)
  have g1 : ((zs.length : Int) != 4) = true := by simp; omega
  clear hl
  go_enter Try.func70, Try.ntmps70
  go_wp2_with fail
  refine (in_any _ _ _ _ true HX).mono ?_
  rintro e w' ⟨rfl, rfl⟩
  go_wp2_with fail
  go_ret
  exact ⟨rfl, 0, rfl⟩
set_option maxHeartbeats 1000000 in
theorem spec_tab_2 (a : Option Addr) (zs : List Int) (c : Nat) (w : World) (hr : ints.Reads .i64 w a zs) (hl : zs.length = 4) (ok : Bool) (h : Hid (numsR 0 1 zs = ok)) :
    Calls Try.prog 70 #[.int .i64 2, .slice a zs.length c] w (fun e w' => e = .returned (.bool ok) ∧ ∃ m, w' = w.drewN m) := by
  have HX : Hid ((decide ((0 : Int) ≤ 2) && decide ((2 : Int) ≤ 4)) = true) := Lib.hid (by decide)
  have g1 : ((zs.length : Int) != 4) = false := by simp; omega
  have hn : zs.length ≤ 16 := by omega
  clear hl
  go_enter Try.func70, Try.ntmps70
  go_wp2_with fail
  refine (in_any _ _ _ _ true HX).mono ?_
  rintro e w' ⟨rfl, rfl⟩
  go_wp2_with fail
  go_loop [5] (fun i => ∃ k : Nat, k ≤ zs.length ∧ i = .int .i64 k ∧ Hid (∀ j, j < k → inR 0 1 (zs.getD j 0) = true)) (fun i => zs.length - (intOf i).toNat)
  case atStart => exact ⟨0, Nat.zero_le _, rfl, fun j hj => by omega⟩
  case round =>
    obtain ⟨k, hk, rfl, hj⟩ := hrel
    by_cases hlt : k < zs.length
    · obtain ⟨b, off, rfl, hb, hc⟩ := hr.at hlt
      cases hx : inR 0 1 (zs.getD k 0)
      · have e : ok = false := by rw [← h.out]; unfold numsR; exact all_false _ 0 zs k hlt hx
        have HX := Lib.hid hx
        clear h hx
        subst e
        unfold inR at HX
        generalize hs : zs.getD k 0 = s at *
        clear hs
        go_wp2_with fail
        refine (in_any _ _ _ _ false HX).mono ?_
        rintro e w' ⟨rfl, rfl⟩
        go_wp2_with fail
        go_ret
        exact ⟨rfl, 0, rfl⟩
      · have HJ : Hid (∀ j, j < k + 1 → inR 0 1 (zs.getD j 0) = true) := fun j h => by
          by_cases e : j = k
          · rw [e]; exact hx
          · exact hj.out j (by omega)
        have HX := Lib.hid hx
        clear hx hj
        unfold inR at HX
        generalize hs : zs.getD k 0 = s at *
        clear hs
        go_wp2_with fail
        refine (in_any _ _ _ _ true HX).mono ?_
        rintro e w' ⟨rfl, rfl⟩
        go_wp2_with fail
        go_round
        case rel => exact ⟨k + 1, by omega, by go_num, HJ⟩
        case measure => simp [intOf]; omega
    · have : k = zs.length := by omega
      have e : ok = true := by rw [← h.out]; unfold numsR; exact all_true _ 0 zs (fun j hj' => hj.out j (by omega))
      clear h hj
      subst this
      subst e
      go_wp2_with fail
      go_ret
      exact ⟨rfl, 0, rfl⟩
set_option maxHeartbeats 1000000 in
theorem spec_len_3 (a : Option Addr) (zs : List Int) (c : Nat) (w : World) (hr : ints.Reads .i64 w a zs) (hl : zs.length ≠ 8) :
    Calls Try.prog 70 #[.int .i64 3, .slice a zs.length c] w (fun e w' => e = .returned (.bool false) ∧ ∃ m, w' = w.drewN m) := by
  have HX : Hid ((decide ((0 : Int) ≤ 3) && decide ((3 : Int) ≤ 4)) = true) := Lib.hid (by decide)
  have g1 : ((zs.length : Int) != 8) = true := by simp; omega
  clear hl
  go_enter Try.func70, Try.ntmps70
  go_wp2_with fail
  refine (in_any _ _ _ _ true HX).mono ?_
  rintro e w' ⟨rfl, rfl⟩
  go_wp2_with fail
  go_ret
  exact ⟨rfl, 0, rfl⟩
set_option maxHeartbeats 1000000 in
theorem spec_tab_3 (a : Option Addr) (zs : List Int) (c : Nat) (w : World) (hr : ints.Reads .i64 w a zs) (hl : zs.length = 8) (ok : Bool) (h : Hid (numsR 0 1 zs = ok)) :
    Calls Try.prog 70 #[.int .i64 3, .slice a zs.length c] w (fun e w' => e = .returned (.bool ok) ∧ ∃ m, w' = w.drewN m) := by
  have HX : Hid ((decide ((0 : Int) ≤ 3) && decide ((3 : Int) ≤ 4)) = true) := Lib.hid (by decide)
  have g1 : ((zs.length : Int) != 8) = false := by simp; omega
  have hn : zs.length ≤ 16 := by omega
  clear hl
  go_enter Try.func70, Try.ntmps70
  go_wp2_with fail
  refine (in_any _ _ _ _ true HX).mono ?_
  rintro e w' ⟨rfl, rfl⟩
  go_wp2_with fail
  go_loop [5] (fun i => ∃ k : Nat, k ≤ zs.length ∧ i = .int .i64 k ∧ Hid (∀ j, j < k → inR 0 1 (zs.getD j 0) = true)) (fun i => zs.length - (intOf i).toNat)
  case atStart => exact ⟨0, Nat.zero_le _, rfl, fun j hj => by omega⟩
  case round =>
    obtain ⟨k, hk, rfl, hj⟩ := hrel
    by_cases hlt : k < zs.length
    · obtain ⟨b, off, rfl, hb, hc⟩ := hr.at hlt
      cases hx : inR 0 1 (zs.getD k 0)
      · have e : ok = false := by rw [← h.out]; unfold numsR; exact all_false _ 0 zs k hlt hx
        have HX := Lib.hid hx
        clear h hx
        subst e
        unfold inR at HX
        generalize hs : zs.getD k 0 = s at *
        clear hs
        go_wp2_with fail
        refine (in_any _ _ _ _ false HX).mono ?_
        rintro e w' ⟨rfl, rfl⟩
        go_wp2_with fail
        go_ret
        exact ⟨rfl, 0, rfl⟩
      · have HJ : Hid (∀ j, j < k + 1 → inR 0 1 (zs.getD j 0) = true) := fun j h => by
          by_cases e : j = k
          · rw [e]; exact hx
          · exact hj.out j (by omega)
        have HX := Lib.hid hx
        clear hx hj
        unfold inR at HX
        generalize hs : zs.getD k 0 = s at *
        clear hs
        go_wp2_with fail
        refine (in_any _ _ _ _ true HX).mono ?_
        rintro e w' ⟨rfl, rfl⟩
        go_wp2_with fail
        go_round
        case rel => exact ⟨k + 1, by omega, by go_num, HJ⟩
        case measure => simp [intOf]; omega
    · have : k = zs.length := by omega
      have e : ok = true := by rw [← h.out]; unfold numsR; exact all_true _ 0 zs (fun j hj' => hj.out j (by omega))
      clear h hj
      subst this
      subst e
      go_wp2_with fail
      go_ret
      exact ⟨rfl, 0, rfl⟩
set_option maxHeartbeats 1000000 in
theorem spec_len_4 (a : Option Addr) (zs : List Int) (c : Nat) (w : World) (hr : ints.Reads .i64 w a zs) (hl : zs.length ≠ 16) :
    Calls Try.prog 70 #[.int .i64 4, .slice a zs.length c] w (fun e w' => e = .returned (.bool false) ∧ ∃ m, w' = w.drewN m) := by
  have HX : Hid ((decide ((0 : Int) ≤ 4) && decide ((4 : Int) ≤ 4)) = true) := Lib.hid (by decide)
  have g1 : ((zs.length : Int) != 16) = true := by simp; omega
  clear hl
  go_enter Try.func70, Try.ntmps70
  go_wp2_with fail
  refine (in_any _ _ _ _ true HX).mono ?_
  rintro e w' ⟨rfl, rfl⟩
  go_wp2_with fail
  go_ret
  exact ⟨rfl, 0, rfl⟩
set_option maxHeartbeats 1000000 in
theorem spec_tab_4 (a : Option Addr) (zs : List Int) (c : Nat) (w : World) (hr : ints.Reads .i64 w a zs) (hl : zs.length = 16) (ok : Bool) (h : Hid (numsR 0 1 zs = ok)) :
    Calls Try.prog 70 #[.int .i64 4, .slice a zs.length c] w (fun e w' => e = .returned (.bool ok) ∧ ∃ m, w' = w.drewN m) := by
  have HX : Hid ((decide ((0 : Int) ≤ 4) && decide ((4 : Int) ≤ 4)) = true) := Lib.hid (by decide)
  have g1 : ((zs.length : Int) != 16) = false := by simp; omega
  have hn : zs.length ≤ 16 := by omega
  clear hl
  go_enter Try.func70, Try.ntmps70
  go_wp2_with fail
  refine (in_any _ _ _ _ true HX).mono ?_
  rintro e w' ⟨rfl, rfl⟩
  go_wp2_with fail
  go_loop [5] (fun i => ∃ k : Nat, k ≤ zs.length ∧ i = .int .i64 k ∧ Hid (∀ j, j < k → inR 0 1 (zs.getD j 0) = true)) (fun i => zs.length - (intOf i).toNat)
  case atStart => exact ⟨0, Nat.zero_le _, rfl, fun j hj => by omega⟩
  case round =>
    obtain ⟨k, hk, rfl, hj⟩ := hrel
    by_cases hlt : k < zs.length
    · obtain ⟨b, off, rfl, hb, hc⟩ := hr.at hlt
      cases hx : inR 0 1 (zs.getD k 0)
      · have e : ok = false := by rw [← h.out]; unfold numsR; exact all_false _ 0 zs k hlt hx
        have HX := Lib.hid hx
        clear h hx
        subst e
        unfold inR at HX
        generalize hs : zs.getD k 0 = s at *
        clear hs
        go_wp2_with fail
        refine (in_any _ _ _ _ false HX).mono ?_
        rintro e w' ⟨rfl, rfl⟩
        go_wp2_with fail
        go_ret
        exact ⟨rfl, 0, rfl⟩
      · have HJ : Hid (∀ j, j < k + 1 → inR 0 1 (zs.getD j 0) = true) := fun j h => by
          by_cases e : j = k
          · rw [e]; exact hx
          · exact hj.out j (by omega)
        have HX := Lib.hid hx
        clear hx hj
        unfold inR at HX
        generalize hs : zs.getD k 0 = s at *
        clear hs
        go_wp2_with fail
        refine (in_any _ _ _ _ true HX).mono ?_
        rintro e w' ⟨rfl, rfl⟩
        go_wp2_with fail
        go_round
        case rel => exact ⟨k + 1, by omega, by go_num, HJ⟩
        case measure => simp [intOf]; omega
    · have : k = zs.length := by omega
      have e : ok = true := by rw [← h.out]; unfold numsR; exact all_true _ 0 zs (fun j hj' => hj.out j (by omega))
      clear h hj
      subst this
      subst e
      go_wp2_with fail
      go_ret
      exact ⟨rfl, 0, rfl⟩
theorem spec_tab (n : Int) (a : Option Addr) (zs : List Int) (c : Nat) (w : World) (hr : ints.Reads .i64 w a zs) (ok : Bool) (h : Hid (tabB n zs = ok)) :
    Calls Try.prog 70 #[.int .i64 n, .slice a zs.length c] w (fun e w' => e = .returned (.bool ok) ∧ ∃ m, w' = w.drewN m) := by
  by_cases h1 : n < 0
  · obtain rfl : ok = false := by rw [← h.out, tab_no (.inl h1)]
    exact spec_lo n a zs c w hr h1
  · by_cases h2 : 4 < n
    · obtain rfl : ok = false := by rw [← h.out, tab_no (.inr h2)]
      exact spec_hi n a zs c w hr h2
    · have h3 : n = 0 ∨ n = 1 ∨ n = 2 ∨ n = 3 ∨ n = 4 := by omega
      rcases h3 with rfl | rfl | rfl | rfl | rfl
      · by_cases hl : zs.length = 1
        · exact spec_tab_0 a zs c w hr hl ok (Lib.hid (by rw [← h.out]; exact (tab_eq (n := 0) (by omega) hl).symm))
        · obtain rfl : ok = false := by rw [← h.out]; exact tab_len (n := 0) (by simpa using hl)
          exact spec_len_0 a zs c w hr hl
      · by_cases hl : zs.length = 2
        · exact spec_tab_1 a zs c w hr hl ok (Lib.hid (by rw [← h.out]; exact (tab_eq (n := 1) (by omega) hl).symm))
        · obtain rfl : ok = false := by rw [← h.out]; exact tab_len (n := 1) (by simpa using hl)
          exact spec_len_1 a zs c w hr hl
      · by_cases hl : zs.length = 4
        · exact spec_tab_2 a zs c w hr hl ok (Lib.hid (by rw [← h.out]; exact (tab_eq (n := 2) (by omega) hl).symm))
        · obtain rfl : ok = false := by rw [← h.out]; exact tab_len (n := 2) (by simpa using hl)
          exact spec_len_2 a zs c w hr hl
      · by_cases hl : zs.length = 8
        · exact spec_tab_3 a zs c w hr hl ok (Lib.hid (by rw [← h.out]; exact (tab_eq (n := 3) (by omega) hl).symm))
        · obtain rfl : ok = false := by rw [← h.out]; exact tab_len (n := 3) (by simpa using hl)
          exact spec_len_3 a zs c w hr hl
      · by_cases hl : zs.length = 16
        · exact spec_tab_4 a zs c w hr hl ok (Lib.hid (by rw [← h.out]; exact (tab_eq (n := 4) (by omega) hl).symm))
        · obtain rfl : ok = false := by rw [← h.out]; exact tab_len (n := 4) (by simpa using hl)
          exact spec_len_4 a zs c w hr hl
set_option maxHeartbeats 1000000 in
theorem impl_lo (n : Int) (a : Option Addr) (zs : List Int) (c : Nat) (w : World) (hr : ints.Reads .i64 w a zs) (hlo : n < 0) :
    Calls Try.prog 74 #[.int .i64 n, .slice a zs.length c] w (fun e w' => e = .returned (.bool false) ∧ ∃ m, w' = w.drewN m) := by
  go_enter Try.func74, Try.ntmps74
  go_wp2_with fail
  go_ret
  exact ⟨rfl, 0, rfl⟩
set_option maxHeartbeats 1000000 in
theorem impl_hi (n : Int) (a : Option Addr) (zs : List Int) (c : Nat) (w : World) (hr : ints.Reads .i64 w a zs) (hhi : 4 < n) :
    Calls Try.prog 74 #[.int .i64 n, .slice a zs.length c] w (fun e w' => e = .returned (.bool false) ∧ ∃ m, w' = w.drewN m) := by
  have g1 : ¬ (n < 0) := by omega
  have g2 : n > 4 := hhi
  go_enter Try.func74, Try.ntmps74
  go_wp2_with fail
  go_ret
  exact ⟨rfl, 0, rfl⟩
set_option maxHeartbeats 1000000 in
theorem impl_len_0 (a : Option Addr) (zs : List Int) (c : Nat) (w : World) (hr : ints.Reads .i64 w a zs) (hl : zs.length ≠ 1) :
    Calls Try.prog 74 #[.int .i64 0, .slice a zs.length c] w (fun e w' => e = .returned (.bool false) ∧ ∃ m, w' = w.drewN m) := by
  have g1 : ((zs.length : Int) != 1) = true := by simp; omega
  clear hl
  go_enter Try.func74, Try.ntmps74
  go_wp2_with fail
  go_ret
  exact ⟨rfl, 0, rfl⟩
set_option maxHeartbeats 1000000 in
theorem impl_tab_0 (a : Option Addr) (zs : List Int) (c : Nat) (w : World) (hr : ints.Reads .i64 w a zs) (hl : zs.length = 1) (ok : Bool) (h : Hid (numsR 0 1 zs = ok)) :
    Calls Try.prog 74 #[.int .i64 0, .slice a zs.length c] w (fun e w' => e = .returned (.bool ok) ∧ ∃ m, w' = w.drewN m) := by
  have g1 : ((zs.length : Int) != 1) = false := by simp; omega
  have hn : zs.length ≤ 16 := by omega
  clear hl
  have HR := Lib.hid hr
  clear hr
  go_enter Try.func74, Try.ntmps74
  go_wp2_with fail
  refine (range.impl_bits a zs c _ HR.out (by omega) ok h).mono ?_
  rintro e w' ⟨rfl, m, rfl⟩
  go_wp2_with fail
  go_ret
  exact ⟨rfl, m, rfl⟩
set_option maxHeartbeats 1000000 in
theorem impl_len_1 (a : Option Addr) (zs : List Int) (c : Nat) (w : World) (hr : ints.Reads .i64 w a zs) (hl : zs.length ≠ 2) :
    Calls Try.prog 74 #[.int .i64 1, .slice a zs.length c] w (fun e w' => e = .returned (.bool false) ∧ ∃ m, w' = w.drewN m) := by
  have g1 : ((zs.length : Int) != 2) = true := by simp; omega
  clear hl
  go_enter Try.func74, Try.ntmps74
  go_wp2_with fail
  go_ret
  exact ⟨rfl, 0, rfl⟩
set_option maxHeartbeats 1000000 in
theorem impl_tab_1 (a : Option Addr) (zs : List Int) (c : Nat) (w : World) (hr : ints.Reads .i64 w a zs) (hl : zs.length = 2) (ok : Bool) (h : Hid (numsR 0 1 zs = ok)) :
    Calls Try.prog 74 #[.int .i64 1, .slice a zs.length c] w (fun e w' => e = .returned (.bool ok) ∧ ∃ m, w' = w.drewN m) := by
  have g1 : ((zs.length : Int) != 2) = false := by simp; omega
  have hn : zs.length ≤ 16 := by omega
  clear hl
  have HR := Lib.hid hr
  clear hr
  go_enter Try.func74, Try.ntmps74
  go_wp2_with fail
  refine (range.impl_bits a zs c _ HR.out (by omega) ok h).mono ?_
  rintro e w' ⟨rfl, m, rfl⟩
  go_wp2_with fail
  go_ret
  exact ⟨rfl, m, rfl⟩
set_option maxHeartbeats 1000000 in
theorem impl_len_2 (a : Option Addr) (zs : List Int) (c : Nat) (w : World) (hr : ints.Reads .i64 w a zs) (hl : zs.length ≠ 4) :
    Calls Try.prog 74 #[.int .i64 2, .slice a zs.length c] w (fun e w' => e = .returned (.bool false) ∧ ∃ m, w' = w.drewN m) := by
  have g1 : ((zs.length : Int) != 4) = true := by simp; omega
  clear hl
  go_enter Try.func74, Try.ntmps74
  go_wp2_with fail
  go_ret
  exact ⟨rfl, 0, rfl⟩
set_option maxHeartbeats 1000000 in
theorem impl_tab_2 (a : Option Addr) (zs : List Int) (c : Nat) (w : World) (hr : ints.Reads .i64 w a zs) (hl : zs.length = 4) (ok : Bool) (h : Hid (numsR 0 1 zs = ok)) :
    Calls Try.prog 74 #[.int .i64 2, .slice a zs.length c] w (fun e w' => e = .returned (.bool ok) ∧ ∃ m, w' = w.drewN m) := by
  have g1 : ((zs.length : Int) != 4) = false := by simp; omega
  have hn : zs.length ≤ 16 := by omega
  clear hl
  have HR := Lib.hid hr
  clear hr
  go_enter Try.func74, Try.ntmps74
  go_wp2_with fail
  refine (range.impl_bits a zs c _ HR.out (by omega) ok h).mono ?_
  rintro e w' ⟨rfl, m, rfl⟩
  go_wp2_with fail
  go_ret
  exact ⟨rfl, m, rfl⟩
set_option maxHeartbeats 1000000 in
theorem impl_len_3 (a : Option Addr) (zs : List Int) (c : Nat) (w : World) (hr : ints.Reads .i64 w a zs) (hl : zs.length ≠ 8) :
    Calls Try.prog 74 #[.int .i64 3, .slice a zs.length c] w (fun e w' => e = .returned (.bool false) ∧ ∃ m, w' = w.drewN m) := by
  have g1 : ((zs.length : Int) != 8) = true := by simp; omega
  clear hl
  go_enter Try.func74, Try.ntmps74
  go_wp2_with fail
  go_ret
  exact ⟨rfl, 0, rfl⟩
set_option maxHeartbeats 1000000 in
theorem impl_tab_3 (a : Option Addr) (zs : List Int) (c : Nat) (w : World) (hr : ints.Reads .i64 w a zs) (hl : zs.length = 8) (ok : Bool) (h : Hid (numsR 0 1 zs = ok)) :
    Calls Try.prog 74 #[.int .i64 3, .slice a zs.length c] w (fun e w' => e = .returned (.bool ok) ∧ ∃ m, w' = w.drewN m) := by
  have g1 : ((zs.length : Int) != 8) = false := by simp; omega
  have hn : zs.length ≤ 16 := by omega
  clear hl
  have HR := Lib.hid hr
  clear hr
  go_enter Try.func74, Try.ntmps74
  go_wp2_with fail
  refine (range.impl_bits a zs c _ HR.out (by omega) ok h).mono ?_
  rintro e w' ⟨rfl, m, rfl⟩
  go_wp2_with fail
  go_ret
  exact ⟨rfl, m, rfl⟩
set_option maxHeartbeats 1000000 in
theorem impl_len_4 (a : Option Addr) (zs : List Int) (c : Nat) (w : World) (hr : ints.Reads .i64 w a zs) (hl : zs.length ≠ 16) :
    Calls Try.prog 74 #[.int .i64 4, .slice a zs.length c] w (fun e w' => e = .returned (.bool false) ∧ ∃ m, w' = w.drewN m) := by
  have g1 : ((zs.length : Int) != 16) = true := by simp; omega
  clear hl
  go_enter Try.func74, Try.ntmps74
  go_wp2_with fail
  go_ret
  exact ⟨rfl, 0, rfl⟩
set_option maxHeartbeats 1000000 in
theorem impl_tab_4 (a : Option Addr) (zs : List Int) (c : Nat) (w : World) (hr : ints.Reads .i64 w a zs) (hl : zs.length = 16) (ok : Bool) (h : Hid (numsR 0 1 zs = ok)) :
    Calls Try.prog 74 #[.int .i64 4, .slice a zs.length c] w (fun e w' => e = .returned (.bool ok) ∧ ∃ m, w' = w.drewN m) := by
  have g1 : ((zs.length : Int) != 16) = false := by simp; omega
  have hn : zs.length ≤ 16 := by omega
  clear hl
  have HR := Lib.hid hr
  clear hr
  go_enter Try.func74, Try.ntmps74
  go_wp2_with fail
  refine (range.impl_bits a zs c _ HR.out (by omega) ok h).mono ?_
  rintro e w' ⟨rfl, m, rfl⟩
  go_wp2_with fail
  go_ret
  exact ⟨rfl, m, rfl⟩
theorem impl_tab (n : Int) (a : Option Addr) (zs : List Int) (c : Nat) (w : World) (hr : ints.Reads .i64 w a zs) (ok : Bool) (h : Hid (tabB n zs = ok)) :
    Calls Try.prog 74 #[.int .i64 n, .slice a zs.length c] w (fun e w' => e = .returned (.bool ok) ∧ ∃ m, w' = w.drewN m) := by
  by_cases h1 : n < 0
  · obtain rfl : ok = false := by rw [← h.out, tab_no (.inl h1)]
    exact impl_lo n a zs c w hr h1
  · by_cases h2 : 4 < n
    · obtain rfl : ok = false := by rw [← h.out, tab_no (.inr h2)]
      exact impl_hi n a zs c w hr h2
    · have h3 : n = 0 ∨ n = 1 ∨ n = 2 ∨ n = 3 ∨ n = 4 := by omega
      rcases h3 with rfl | rfl | rfl | rfl | rfl
      · by_cases hl : zs.length = 1
        · exact impl_tab_0 a zs c w hr hl ok (Lib.hid (by rw [← h.out]; exact (tab_eq (n := 0) (by omega) hl).symm))
        · obtain rfl : ok = false := by rw [← h.out]; exact tab_len (n := 0) (by simpa using hl)
          exact impl_len_0 a zs c w hr hl
      · by_cases hl : zs.length = 2
        · exact impl_tab_1 a zs c w hr hl ok (Lib.hid (by rw [← h.out]; exact (tab_eq (n := 1) (by omega) hl).symm))
        · obtain rfl : ok = false := by rw [← h.out]; exact tab_len (n := 1) (by simpa using hl)
          exact impl_len_1 a zs c w hr hl
      · by_cases hl : zs.length = 4
        · exact impl_tab_2 a zs c w hr hl ok (Lib.hid (by rw [← h.out]; exact (tab_eq (n := 2) (by omega) hl).symm))
        · obtain rfl : ok = false := by rw [← h.out]; exact tab_len (n := 2) (by simpa using hl)
          exact impl_len_2 a zs c w hr hl
      · by_cases hl : zs.length = 8
        · exact impl_tab_3 a zs c w hr hl ok (Lib.hid (by rw [← h.out]; exact (tab_eq (n := 3) (by omega) hl).symm))
        · obtain rfl : ok = false := by rw [← h.out]; exact tab_len (n := 3) (by simpa using hl)
          exact impl_len_3 a zs c w hr hl
      · by_cases hl : zs.length = 16
        · exact impl_tab_4 a zs c w hr hl ok (Lib.hid (by rw [← h.out]; exact (tab_eq (n := 4) (by omega) hl).symm))
        · obtain rfl : ok = false := by rw [← h.out]; exact tab_len (n := 4) (by simpa using hl)
          exact impl_len_4 a zs c w hr hl
end Go.Proofs.Ytoephhhofkmgjab.tab
