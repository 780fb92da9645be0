/- The walks of the tests whether all numbers of a list are in a range: the model's shares and rows, the program's own. -/
import Derived.Test.YtoephhhofkmgjaaNums
import Derived.Test.YtoephhhofkmgjaaOwnG
import Derived.Test.YtoephhhofkmgjaaShelf
import Derived.Shelf.GgClosure.Gives
namespace Go.Proofs.Ytoephhhofkmgjaa.range
open Go.RowKit own pp nums
set_option linter.unusedVariables false
set_option linter.unusedSimpArgs false

/-- Within lo..hi. -/
def inR (lo hi z : Int) : Bool := decide (lo ≤ z) && decide (z ≤ hi)
def numsR (lo hi : Int) (zs : List Int) : Bool := zs.all (inR lo hi)
theorem inR_iff (lo hi z : Int) : inR lo hi z = true ↔ lo ≤ z ∧ z ≤ hi := by simp [inR]
theorem numsR_at {lo hi : Int} {zs : List Int} (h : numsR lo hi zs = true) (k : Nat) (hk : k < zs.length) : lo ≤ zs.getD k 0 ∧ zs.getD k 0 ≤ hi := (inR_iff _ _ _).1 (all_at _ 0 zs h k hk)
def sharesB (zs : List Int) : Bool := (decide (1 ≤ (zs.length : Int)) && decide ((zs.length : Int) ≤ 8)) && numsR 0 16 zs
def rowsB' (n : Int) (zs : List Int) : Bool := numsR 0 1 zs && decide ((zs.length : Int) = n)
theorem cell_bang {w : World} {b off : Nat} {zs : List Int} (h : ∀ i, i < zs.length → w.cell? ⟨b, off + i, none⟩ = some (.int .i64 (zs.getD i 0))) : ∀ j, j < zs.length → w.cell? ⟨b, off + j, none⟩ = some (Value.int .i64 zs[j]!) := by
  intro j hj
  rw [h j hj, List.getD_eq_getElem?_getD, List.getElem?_eq_getElem hj]
  simp [hj]

theorem any_not (lo hi : Int) (zs : List Int) : zs.any (fun z => !(inR lo hi z)) = !(numsR lo hi zs) := by
  unfold numsR
  induction zs with
  | nil => rfl
  | cons z zs ih => simp [List.any_cons, List.all_cons, ih]

set_option maxHeartbeats 400000 in
theorem spec_row (n : Int) (a : Option Addr) (zs : List Int) (c : Nat) (w : World) (hr : ints.Reads .i64 w a zs) (hn : zs.length ≤ 1048576) (ok : Bool) (h : Hid (rowsB' n zs = ok)) :
    Calls Try.prog 66 #[.int .i64 n, .slice a zs.length c] w (Says ok w) := by
  go_enter Try.func66, Try.ntmps66
  go_wp2_with fail
  go_loop [5] (fun i => ∃ k : Nat, k ≤ zs.length ∧ i = .int .i64 k ∧ Hid (∀ j, j < k → inR 0 1 (zs.getD j 0) = true)) (fun i => zs.length - (intOf i).toNat)
  case atStart => exact ⟨0, Nat.zero_le _, rfl, fun j hj => by omega⟩
  case round =>
    obtain ⟨k, hk, rfl, hj⟩ := hrel
    by_cases hlt : k < zs.length
    · obtain ⟨b, off, rfl, hb, hc⟩ := hr.at hlt
      cases hx : inR 0 1 (zs.getD k 0)
      · have e : ok = false := by rw [← h.out]; unfold rowsB' numsR; rw [all_false _ 0 zs k hlt hx, Bool.false_and]
        have HX := Lib.hid hx
        clear h hx
        subst e
        unfold inR at HX
        generalize hs : zs.getD k 0 = s at *
        clear hs
        go_wp2_with fail
        refine (in_any _ _ _ _ false HX).mono ?_
        rintro e w' ⟨rfl, rfl⟩
        go_wp2_with fail
        go_ret
        exact ⟨rfl, rfl⟩
      · have HJ : Hid (∀ j, j < k + 1 → inR 0 1 (zs.getD j 0) = true) := fun j h => by
          by_cases e : j = k
          · rw [e]; exact hx
          · exact hj.out j (by omega)
        have HX := Lib.hid hx
        clear hx hj
        unfold inR at HX
        generalize hs : zs.getD k 0 = s at *
        clear hs
        go_wp2_with fail
        refine (in_any _ _ _ _ true HX).mono ?_
        rintro e w' ⟨rfl, rfl⟩
        go_wp2_with fail
        go_round
        case rel => exact ⟨k + 1, by omega, by go_num, HJ⟩
        case measure => simp [intOf]; omega
    · have : k = zs.length := by omega
      have e : decide ((zs.length : Int) = n) = ok := by
        rw [← h.out]; unfold rowsB' numsR; rw [all_true _ 0 zs (fun j hj' => hj.out j (by omega)), Bool.true_and]
      clear h hj
      subst this
      have HE := Lib.hid (show Says ok w (.returned (.bool ((zs.length : Int) == n))) w from ⟨by rw [← e]; rfl, rfl⟩)
      clear e
      go_wp2_with fail
      go_ret
      exact HE.out
theorem bit_any (z : Int) (w : World) (ok : Bool) (h : Hid (inR 0 1 z = ok)) :
    Calls Try.prog 110 #[.int .i64 z] w (Says ok w) := by
  by_cases h0 : z = 0
  · have e : ok = true := by rw [← h.out, h0]; rfl
    clear h
    subst e
    subst h0
    go_enter Try.func110, Try.ntmps110
    go_wp2_with fail
    go_ret
    exact ⟨rfl, rfl⟩
  · by_cases h1 : z = 1
    · have e : ok = true := by rw [← h.out, h1]; rfl
      clear h
      subst e
      subst h1
      go_enter Try.func110, Try.ntmps110
      go_wp2_with fail
      go_ret
      exact ⟨rfl, rfl⟩
    · have e : ok = false := by
        rw [← h.out]
        cases hx : inR 0 1 z
        · rfl
        · have := (inR_iff _ _ _).1 hx; omega
      clear h
      subst e
      have g0 : (z == 0) = false := by rw [beq_eq_false_iff_ne]; exact h0
      have g1 : (z == 1) = false := by rw [beq_eq_false_iff_ne]; exact h1
      clear h0 h1
      go_enter Try.func110, Try.ntmps110
      go_wp2_with fail
      go_ret
      exact ⟨rfl, rfl⟩
theorem bits_at (w : World) : PredAt Try.prog 109 #[] (Value.int .i64) (fun z => !(inR 0 1 z)) w := by
  intro W z hB
  show Calls _ _ #[.int .i64 z] W _
  obtain ⟨ok, hx⟩ : ∃ ok, inR 0 1 z = ok := ⟨_, rfl⟩
  have HX := Lib.hid hx
  refine Calls.mono (show Calls Try.prog 109 #[.int .i64 z] W (fun e w' => e = .returned (.bool (!ok)) ∧ ∃ q, w' = W.drewN q) from ?_) (fun e w' h => ⟨by rw [h.1]; simp [HX.out], h.2⟩)
  clear hx hB
  go_enter Try.func109, Try.ntmps109
  go_wp2_with fail
  refine (bit_any z _ ok HX).mono ?_
  rintro e w' ⟨rfl, rfl⟩
  cases ok
  all_goals (go_wp2_with fail; go_ret; exact ⟨rfl, 0, rfl⟩)

set_option maxHeartbeats 1000000 in
theorem impl_bits (a : Option Addr) (zs : List Int) (c : Nat) (w : World) (hr : ints.Reads .i64 w a zs) (hn : zs.length ≤ 1048576) (ok : Bool) (h : Hid (numsR 0 1 zs = ok)) :
    Calls Try.prog 68 #[.slice a zs.length c] w (fun e w' => e = .returned (.bool ok) ∧ ∃ q, w' = w.drewN q) := by
  have HC := Lib.hid (show Calls Try.prog 108 #[.slice a zs.length c, .func (.func 109) #[] #[]] w fun e w' => e = .returned (.bool (!ok)) ∧ ∃ q, w' = w.drewN q from by
    rcases hr with rfl | ⟨b, off, rfl, hb, hc⟩
    · refine (Try.slices_ContainsFunc_empty (α := Int) _ _ _ _).mono ?_
      rintro e w' ⟨rfl, rfl⟩
      exact ⟨by rw [← h.out]; rfl, 0, rfl⟩
    · refine (Try.slices_ContainsFunc (α := Int) (Value.int .i64) (fun z => !(inR 0 1 z)) _ _ (enters_of Try.func109 (by kernel_rfl) rfl) b off zs.length c zs _ (bits_at _) (Nat.le_refl _) (by omega) (cell_bang hc)).mono ?_
      rintro e w' ⟨rfl, q, rfl⟩
      refine ⟨?_, _, rfl⟩
      rw [List.take_length, any_not, h.out])
  clear hr h
  go_enter Try.func68, Try.ntmps68
  go_wp2_with fail
  refine HC.out.mono ?_
  rintro e w' ⟨rfl, q, rfl⟩
  cases ok
  all_goals (go_wp2_with fail; go_ret; exact ⟨rfl, _, rfl⟩)
end Go.Proofs.Ytoephhhofkmgjaa.range
