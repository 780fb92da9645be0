/- The walks of ParseInt, of the model's and of the project's; the table of powers of ten must hold what its initialiser lays. -/
import Derived.Test.YtocjedheimhfoaaDoorFormat
import Derived.Test.YtocjedheimhfoaaDoorPlainParse
import Derived.Outline
namespace Go.Proofs.YtocjedheimhfoaaDoor.parse
open Go.RowKit num format pparse
set_option linter.unusedVariables false

/-- Some number; the very one, where the text is a number's. -/
def StartPost (s : ByteArray) (w : World) (e : Ending) (w' : World) : Prop := ∃ z : Int, e = .returned (.int .i64 z) ∧ -99999999 ≤ z ∧ z ≤ 99999999 ∧ (∀ n, P s n → z = n) ∧ w = w'

theorem start_post {s : ByteArray} {w : World} {z z' : Int} (h : z = z') (h0 : -99999999 ≤ z) (h1 : z ≤ 99999999) (h2 : ∀ n, P s n → z = n) : StartPost s w (.returned (.int .i64 z')) w := by
  subst h
  exact ⟨z, rfl, h0, h1, h2, rfl⟩

set_option maxHeartbeats 1000000 in
theorem start_any (s : ByteArray) (w : World) (hs : s.size ≤ 1048576) :
    Calls Tryd.prog 28 #[.string s] w (StartPost s w) := by
  go_enter Tryd.func28, Tryd.ntmps28
  go_wp2
  go_step3
  go_wp2
  go_step3
  go_wp2
  go_loop [3, 4, 9] (fun g m i => ∃ (k : Nat) (x y : Int), k ≤ s.size ∧ i = .int .i64 k ∧ g = .int .i64 x ∧ m = .int .i64 y ∧ (x = 1 ∨ x = -1) ∧ 0 ≤ y ∧ y ≤ 99999999 ∧
      (∀ n, P s n → (x, y) = sv (1, 0) (s.data.toList.take k))) (fun _ _ i => s.size - (intOf i).toNat)
  case atStart => exact ⟨0, 1, 0, Nat.zero_le _, rfl, rfl, rfl, .inl rfl, by omega, by omega, fun _ _ => rfl⟩
  case round =>
    obtain ⟨k, x, y, hk, rfl, rfl, rfl, hx, hy0, hy1, hsv⟩ := hrel
    have HV := Lib.hid hsv
    clear hsv
    by_cases hlt : k < s.size
    · have HN := Lib.hid (sv_next s k hlt)
      have HA := Lib.hid (fun n h => P_at (s := s) (n := n) h k hlt)
      obtain ⟨b, hb⟩ : ∃ b, s[k] = b := ⟨_, rfl⟩
      have HB := Lib.hid hb
      obtain ⟨c, hc⟩ : ∃ c : Nat, s[k].toNat = c := ⟨_, rfl⟩
      have hc1 : (c : Int) < 256 := by have := s[k].toNat_lt; omega
      have HC := Lib.hid (show b.toNat = c by rw [← hb]; exact hc)
      clear hb
      by_cases hA : c = 45 ∧ k = 0
      · obtain ⟨rfl, rfl⟩ := hA
        have HT := Lib.hid (show ∀ n, P s n → ((-1 : Int), y) = sv (1, 0) (s.data.toList.take (0 + 1)) from fun n hn => by
          have e1 := HV.out n hn
          have e2 := HN.out
          rw [← e1, if_pos (by rw [HB.out]; exact UInt8.toNat_inj.1 HC.out)] at e2
          exact e2.symm)
        rcases hx with rfl | rfl
        all_goals
          go_wp2
          go_round
          case rel => exact ⟨0 + 1, -1, y, by omega, by go_num, rfl, rfl, .inr rfl, hy0, hy1, HT.out⟩
          case measure => simp [intOf]; omega
      · by_cases hB : (48 ≤ (c : Int) ∧ (c : Int) ≤ 57) ∧ y ≤ 999999
        · obtain ⟨⟨hB1, hB2⟩, hB3⟩ := hB
          have hn45 : ((c : Int) == 45) = false := by rw [beq_eq_false_iff_ne]; omega
          have HT := Lib.hid (show ∀ n, P s n → (x, 10 * y + ((c : Int) - 48)) = sv (1, 0) (s.data.toList.take (k + 1)) from fun n hn => by
            have e1 := HV.out n hn
            have e2 := HN.out
            rw [← e1, if_neg (by rw [HB.out]; intro e; have := HC.out; rw [e] at this; simp at this; omega), HB.out, HC.out] at e2
            exact e2.symm)
          clear hA
          rcases hx with rfl | rfl
          all_goals
            go_wp2
            go_round
            case rel => exact ⟨k + 1, _, 10 * y + ((c : Int) - 48), by omega, by go_num, rfl, rfl, by omega, by omega, by omega, HT.out⟩
            case measure => simp [intOf]; omega
        · have HF := Lib.hid (show ∀ n, ¬ P s n from fun n hn => by
            rcases HA.out n hn with ⟨e, e0⟩ | ⟨e, e0⟩
            · apply hA
              refine ⟨?_, e0⟩
              rw [HB.out] at e
              rw [← HC.out, e]
              rfl
            · apply hB
              rw [← HV.out n hn] at e0
              unfold isDigit at e
              rw [HB.out, HC.out] at e
              exact ⟨e, e0⟩)
          clear HA
          have HFx := Lib.hid (show ∀ (z : Int), ∀ n, P s n → z = n from fun z n hn => absurd hn (HF.out n))
          rcases hx with rfl | rfl
          all_goals
            by_cases h45 : c = 45
            · have hk0 : ((k : Int) == 0) = false := by rw [beq_eq_false_iff_ne]; intro e; exact hA ⟨h45, by omega⟩
              subst h45
              clear hA hB
              go_wp2
              go_ret
              first
                | exact start_post (z := y) (z' := y) rfl (by omega) (by omega) (HFx.out _)
                | exact start_post (z := -y) (z' := -y) rfl (by omega) (by omega) (HFx.out _)
            · have hn45 : ((c : Int) == 45) = false := by rw [beq_eq_false_iff_ne]; omega
              by_cases h1 : 48 ≤ (c : Int)
              · by_cases h2 : (c : Int) ≤ 57
                · have h3 : 999999 < y := by
                    by_cases h : 999999 < y
                    · exact h
                    · exact absurd ⟨⟨h1, h2⟩, by omega⟩ hB
                  have h3' : decide (y ≤ 999999) = false := by simp; omega
                  clear hA hB h45
                  go_wp2
                  go_ret
                  first
                    | exact start_post (z := y) (z' := y) rfl (by omega) (by omega) (HFx.out _)
                    | exact start_post (z := -y) (z' := -y) rfl (by omega) (by omega) (HFx.out _)
                · have h2' : 57 < (c : Int) := by omega
                  have h2d : decide ((c : Int) ≤ 57) = false := by simp; omega
                  clear hA hB h45
                  go_wp2
                  go_ret
                  first
                    | exact start_post (z := y) (z' := y) rfl (by omega) (by omega) (HFx.out _)
                    | exact start_post (z := -y) (z' := -y) rfl (by omega) (by omega) (HFx.out _)
              · have h1' : (c : Int) < 48 := by omega
                have h1d : decide (48 ≤ (c : Int)) = false := by simp; omega
                clear hA hB h45
                go_wp2
                go_ret
                first
                  | exact start_post (z := y) (z' := y) rfl (by omega) (by omega) (HFx.out _)
                  | exact start_post (z := -y) (z' := -y) rfl (by omega) (by omega) (HFx.out _)
    · have : k = s.size := by omega
      subst this
      have HT := Lib.hid (show ∀ n, P s n → x * y = n from fun n hn => by
        have e1 := HV.out n hn
        have e2 := P_all hn
        rw [← e1] at e2
        exact e2)
      rcases hx with rfl | rfl
      · go_wp2
        go_ret
        exact start_post (z := y) (z' := y) rfl (by omega) (by omega) (fun n hn => by have := HT.out n hn; omega)
      · go_wp2
        go_ret
        exact start_post (z := -y) (z' := -y) rfl (by omega) (by omega) (fun n hn => by have := HT.out n hn; omega)
end Go.Proofs.YtocjedheimhfoaaDoor.parse
