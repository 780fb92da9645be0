/- Sets compared: plain definitions, and the walks of the program's comparison; no condition. -/
import Derived.Test.YtncidajjeccbkaaNums
import Derived.Test.YtncidajjeccbkaaGrid
namespace Go.Proofs.Ytncidajjeccbkaa.setcmp
open Go.RowKit own pp nums
set_option linter.unusedVariables false
set_option linter.unusedSimpArgs false

def cmpI (x y : Int) : Int := if x < y then -1 else if y < x then 1 else 0
/-- Two lists compared, number by number. -/
def lexC : List Int → List Int → Int
  | [], [] => 0
  | [], _ :: _ => -1
  | _ :: _, [] => 1
  | x :: xs, y :: ys => if cmpI x y = 0 then lexC xs ys else cmpI x y
/-- Two sets compared. -/
def setC (a b : List Int) : Int := if cmpI a.length b.length = 0 then lexC a b else cmpI a.length b.length
theorem cmp_zero {x y : Int} : cmpI x y = 0 ↔ x = y := by
  unfold cmpI
  split
  · constructor <;> intro h <;> omega
  · split
    · constructor <;> intro h <;> omega
    · constructor <;> intro h <;> omega
theorem cmp_bd (x y : Int) : -1 ≤ cmpI x y ∧ cmpI x y ≤ 1 := by
  unfold cmpI
  split
  · omega
  · split <;> omega
theorem lex_bd : ∀ a b : List Int, -1 ≤ lexC a b ∧ lexC a b ≤ 1
  | [], [] => by simp [lexC]
  | [], _ :: _ => by simp [lexC]
  | _ :: _, [] => by simp [lexC]
  | x :: xs, y :: ys => by
    rw [lexC]
    split
    · exact lex_bd xs ys
    · exact cmp_bd x y
theorem lex_drop {a b : List Int} {k : Nat} (ha : k < a.length) (hb : k < b.length) : lexC (a.drop k) (b.drop k) = if cmpI (a.getD k 0) (b.getD k 0) = 0 then lexC (a.drop (k + 1)) (b.drop (k + 1)) else cmpI (a.getD k 0) (b.getD k 0) := by
  rw [List.drop_eq_getElem_cons ha, List.drop_eq_getElem_cons hb, lexC, List.getD_eq_getElem?_getD, List.getD_eq_getElem?_getD, List.getElem?_eq_getElem ha, List.getElem?_eq_getElem hb]
  rfl
theorem lex_end {a b : List Int} {k : Nat} (ha : k < a.length) (hb : b.length ≤ k) : lexC (a.drop k) (b.drop k) = 1 := by
  rw [List.drop_eq_getElem_cons ha, List.drop_eq_nil_of_le hb, lexC]
theorem lex_done {a b : List Int} {k : Nat} (ha : k = a.length) : lexC (a.drop k) (b.drop k) = if a.length < b.length then -1 else 0 := by
  subst ha
  rw [List.drop_length]
  split
  · rename_i h
    rw [List.drop_eq_getElem_cons h, lexC]
  · rename_i h
    rw [List.drop_eq_nil_of_le (by omega), lexC]
theorem nan_any (x : Int) (w : World) : Calls Try.prog 103 #[.int .i64 x] w (fun e w' => e = .returned (.bool false) ∧ w' = w) := by
  have h1 : (x != x) = false := by simp
  go_enter Try.func103, Try.ntmps103
  go_wp2_with fail
  go_ret
  exact ⟨rfl, rfl⟩
theorem compare_any (x y : Int) (w : World) : Calls Try.prog 88 #[.int .i64 x, .int .i64 y] w (fun e w' => e = .returned (.int .i64 (cmpI x y)) ∧ w' = w) := by
  have HX := Lib.hid (nan_any x w)
  have HY := Lib.hid (nan_any y w)
  by_cases h1 : x < y
  · have e : cmpI x y = -1 := if_pos h1
    rw [e]
    go_enter Try.func88, Try.ntmps88
    go_wp2_with fail
    refine HX.out.mono ?_
    rintro e w' ⟨rfl, rfl⟩
    go_wp2_with fail
    refine HY.out.mono ?_
    rintro e w' ⟨rfl, rfl⟩
    go_wp2_with fail
    go_ret
    exact ⟨rfl, rfl⟩
  · by_cases h2 : y < x
    · have e : cmpI x y = 1 := by unfold cmpI; rw [if_neg h1, if_pos h2]
      rw [e]
      go_enter Try.func88, Try.ntmps88
      go_wp2_with fail
      refine HX.out.mono ?_
      rintro e w' ⟨rfl, rfl⟩
      go_wp2_with fail
      refine HY.out.mono ?_
      rintro e w' ⟨rfl, rfl⟩
      go_wp2_with fail
      go_ret
      exact ⟨rfl, rfl⟩
    · have e : cmpI x y = 0 := by unfold cmpI; rw [if_neg h1, if_neg h2]
      rw [e]
      go_enter Try.func88, Try.ntmps88
      go_wp2_with fail
      refine HX.out.mono ?_
      rintro e w' ⟨rfl, rfl⟩
      go_wp2_with fail
      refine HY.out.mono ?_
      rintro e w' ⟨rfl, rfl⟩
      go_wp2_with fail
      go_ret
      exact ⟨rfl, rfl⟩
set_option maxHeartbeats 1000000 in
theorem lists_any (a : Option Addr) (xs : List Int) (c : Nat) (a' : Option Addr) (ys : List Int) (c' : Nat) (w : World) (hr : ints.Reads .i64 w a xs) (hq : ints.Reads .i64 w a' ys) (hn : xs.length ≤ 1048576) (hm : ys.length ≤ 1048576) :
    Calls Try.prog 51 #[.slice a xs.length c, .slice a' ys.length c'] w (fun e w' => e = .returned (.int .i64 (lexC xs ys)) ∧ w' = w) := by
  have HC := Lib.hid (fun x y => compare_any x y w)
  obtain ⟨r, hrr⟩ : ∃ r, lexC xs ys = r := ⟨_, rfl⟩
  have HR := Lib.hid hrr
  rw [hrr]
  clear hrr
  go_enter Try.func51, Try.ntmps51
  go_wp2_with fail
  go_loop [11] (fun i => ∃ k : Nat, k ≤ xs.length ∧ i = .int .i64 k ∧ Hid (lexC (xs.drop k) (ys.drop k) = r)) (fun i => xs.length - (intOf i).toNat)
  case atStart => exact ⟨0, Nat.zero_le _, rfl, HR⟩
  case round =>
    clear HR
    obtain ⟨k, hk, rfl, hl⟩ := hrel
    by_cases hlt : k < xs.length
    · obtain ⟨b, off, rfl, hb, hc⟩ := hr.at hlt
      have i1 : (0 : Int) ≤ (k : Int) := by omega
      have i2 : (k : Int) < (xs.length : Int) := by omega
      by_cases h2 : k < ys.length
      · obtain ⟨b', off', rfl, hb', hc'⟩ := hq.at h2
        have i3 : (k : Int) < (ys.length : Int) := by omega
        have i4 : ¬ ((ys.length : Int) ≤ (k : Int)) := by omega
        have hd := hl.out
        rw [lex_drop hlt h2] at hd
        have HCk := Lib.hid (HC.out (xs.getD k 0) (ys.getD k 0))
        clear hl
        generalize xs.getD k 0 = x at *
        generalize ys.getD k 0 = y at *
        by_cases h0 : cmpI x y = 0
        · rw [if_pos h0] at hd
          have HD := Lib.hid hd
          rw [h0] at HCk
          clear hd h0
          go_wp2_with fail
          refine HCk.out.mono ?_
          rintro e w' ⟨rfl, rfl⟩
          go_wp2_with fail
          go_round
          case rel => exact ⟨k + 1, by omega, by go_num, HD⟩
          case measure => simp [intOf]; omega
        · rw [if_neg h0] at hd
          rw [hd] at HCk h0
          have h3 : (r != 0) = true := by rw [bne_iff_ne]; exact h0
          clear hd h0
          go_wp2_with fail
          refine HCk.out.mono ?_
          rintro e w' ⟨rfl, rfl⟩
          go_wp2_with fail
          go_ret
          exact ⟨rfl, rfl⟩
      · have i3 : ((ys.length : Int) ≤ (k : Int)) := by omega
        have hd := hl.out
        rw [lex_end hlt (by omega)] at hd
        subst hd
        clear hl
        go_wp2_with fail
        go_ret
        exact ⟨rfl, rfl⟩
    · have hkk : k = xs.length := by omega
      have hd := hl.out
      rw [lex_done hkk] at hd
      clear hl
      subst hkk
      by_cases h3 : xs.length < ys.length
      · rw [if_pos h3] at hd
        subst hd
        have i3 : ((xs.length : Int) < (ys.length : Int)) := by omega
        go_wp2_with fail
        go_ret
        exact ⟨rfl, rfl⟩
      · rw [if_neg h3] at hd
        subst hd
        have i3 : ¬ ((xs.length : Int) < (ys.length : Int)) := by omega
        go_wp2_with fail
        go_ret
        exact ⟨rfl, rfl⟩
set_option maxHeartbeats 1000000 in
theorem or_two (g c : Nat) (x y : Int) (w : World) (h0 : w.cell? ⟨g, 0, none⟩ = some (.int .i64 x)) (h1 : w.cell? ⟨g, 1, none⟩ = some (.int .i64 y)) :
    Calls Try.prog 113 #[.slice (some ⟨g, 0, none⟩) 2 c] w (fun e w' => e = .returned (.int .i64 (if x = 0 then y else x)) ∧ w' = w) := by
  obtain ⟨r, hr⟩ : ∃ r, (if x = 0 then y else x) = r := ⟨_, rfl⟩
  rw [hr]
  have HR := Lib.hid hr
  clear hr
  go_enter Try.func113, Try.ntmps113
  go_wp2_with fail
  go_loop [8] (fun i => ∃ k : Nat, k ≤ 2 ∧ i = .int .i64 k ∧ (k = 1 ∨ k = 2 → x = 0) ∧ (k = 2 → y = 0)) (fun i => 2 - (intOf i).toNat)
  case atStart => exact ⟨0, by omega, rfl, by omega, by omega⟩
  case round =>
    obtain ⟨k, hk, rfl, hx, hy⟩ := hrel
    have h3 : k = 0 ∨ k = 1 ∨ k = 2 := by omega
    rcases h3 with rfl | rfl | rfl
    · by_cases e : x = 0
      · subst e
        go_wp2_with fail
        go_round
        case rel => exact ⟨1, by omega, by go_num, fun _ => by trivial, fun h => absurd h (by decide)⟩
        case measure => simp [intOf]
      · have h4 : (x != 0) = true := by rw [bne_iff_ne]; exact e
        obtain rfl : x = r := by rw [← HR.out, if_neg e]
        go_wp2_with fail
        go_ret
        exact ⟨rfl, rfl⟩
    · obtain rfl : x = 0 := hx (.inl rfl)
      obtain rfl : y = r := by rw [← HR.out, if_pos rfl]
      by_cases e : y = 0
      · subst e
        go_wp2_with fail
        go_round
        case rel => exact ⟨2, by omega, by go_num, fun _ => by trivial, fun _ => by trivial⟩
        case measure => simp [intOf]
      · have h4 : (y != 0) = true := by rw [bne_iff_ne]; exact e
        go_wp2_with fail
        go_ret
        exact ⟨rfl, rfl⟩
    · obtain rfl : x = 0 := hx (.inr rfl)
      obtain rfl : y = 0 := hy rfl
      obtain rfl : (0 : Int) = r := by rw [← HR.out, if_pos rfl]
      go_wp2_with fail
      go_ret
      exact ⟨rfl, rfl⟩
set_option maxHeartbeats 1000000 in
theorem sets_any (a : Option Addr) (xs : List Int) (c : Nat) (a' : Option Addr) (ys : List Int) (c' : Nat) (w : World) (hr : ints.Reads .i64 w a xs) (hq : ints.Reads .i64 w a' ys) (hn : xs.length ≤ 1048576) (hm : ys.length ≤ 1048576) :
    Calls Try.prog 107 #[.slice a xs.length c, .slice a' ys.length c'] w (fun e w' => e = .returned (.int .i64 (setC xs ys)) ∧ ∃ O, w' = w.alloc O) := by
  have H1 := Lib.hid (compare_any (xs.length : Int) (ys.length : Int) w)
  have H2 := Lib.hid (lists_any a xs c a' ys c' w hr hq hn hm)
  have H3 := Lib.hid (fun (x y : Int) (W : World) => or_two w.heap.size 2 x y W)
  have HS := Lib.hid (show setC xs ys = if cmpI (xs.length : Int) (ys.length : Int) = 0 then lexC xs ys else cmpI (xs.length : Int) (ys.length : Int) from rfl)
  rw [HS.out]
  generalize cmpI (xs.length : Int) (ys.length : Int) = x at *
  generalize lexC xs ys = y at *
  replace H3 := Lib.hid (H3.out x y)
  generalize (if x = 0 then y else x) = r at *
  clear HS hr hq
  go_enter Try.func107, Try.ntmps107
  go_wp2_with fail
  refine H1.out.mono ?_
  rintro e w' ⟨rfl, rfl⟩
  go_wp2_with fail
  refine H2.out.mono ?_
  rintro e w' ⟨rfl, rfl⟩
  go_wp2_with fail
  refine (H3.out _ (cell_new _ _ _ rfl rfl) (cell_new _ _ _ rfl rfl)).mono ?_
  rintro e w2 ⟨rfl, rfl⟩
  go_wp2_with fail
  go_ret
  exact ⟨rfl, _, rfl⟩
end Go.Proofs.Ytncidajjeccbkaa.setcmp
