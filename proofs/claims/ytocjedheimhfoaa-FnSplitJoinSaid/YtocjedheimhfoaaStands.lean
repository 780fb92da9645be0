/- The walks of the functions that look for one byte in a string: spec.l1Stands, strings.Contains at a text of one byte. -/
import Derived.Test.YtocjedheimhfoaaRows
import Derived.WalkKit
import Derived.Test.YtocjedheimhfoaaPlainJoin
import Derived.WalkSpells
import Derived.WalkLawsBesides
import Derived.Outline
import Derived.Lib.Hide
import Derived.Lib.IndexAny
import Derived.Lib.Bytealg
namespace Go.Proofs.Ytocjedheimhfoaa.stands
open Go.RowKit pjoin
set_option linter.unusedVariables false


theorem has_take_succ (s : ByteArray) (k : Nat) (h : k < s.size) (b : UInt8) (h0 : has (s.data.toList.take k) b = false) (h1 : s[k] ≠ b) : has (s.data.toList.take (k + 1)) b = false := by
  unfold has at *
  rw [List.take_succ_eq_append_getElem (by simpa using h)]
  simp only [List.contains_eq_mem, decide_eq_false_iff_not, List.mem_append, List.mem_singleton, not_or] at *
  exact ⟨h0, fun e => h1 e.symm⟩

theorem has_at (s : ByteArray) (k : Nat) (h : k < s.size) (b : UInt8) (h1 : s[k] = b) : has s.data.toList b = true := by
  unfold has
  simp only [List.contains_eq_mem, decide_eq_true_eq]
  subst h1
  exact List.getElem_mem (l := s.data.toList) (by simpa using h)

theorem has_all (s : ByteArray) (b : UInt8) : has (s.data.toList.take s.size) b = has s.data.toList b := by
  rw [List.take_of_length_le (by simp)]

set_option maxHeartbeats 400000 in
theorem stands_any (s : ByteArray) (b : UInt8) (w : World) (hs : s.size ≤ 140737488355328) :
    Calls Try.prog 32 #[.string s, .int .u8 b.toNat] w fun e w' => e = .returned (.bool (has s.data.toList b)) ∧ w' = w := by
  go_enter Try.func32, Try.ntmps32
  go_wp2
  go_loop [5] (fun i => ∃ k : Nat, k ≤ s.size ∧ i = .int .i64 k ∧ has (s.data.toList.take k) b = false) (fun i => s.size - (intOf i).toNat)
  case atStart => exact ⟨0, Nat.zero_le _, rfl, rfl⟩
  case round =>
    obtain ⟨k, hk, rfl, h0⟩ := hrel
    have H0 := Lib.hid h0
    clear h0
    by_cases hlt : k < s.size
    · by_cases hb : s[k] = b
      · have H1 := Lib.hid (has_at s k hlt b hb)
        have hb' : (((s[k].toNat : Int)) == (b.toNat : Int)) = true := by rw [hb]; simp
        clear hb
        go_wp2
        go_ret
        exact ⟨by rw [H1.out]; rfl, rfl⟩
      · have H1 := Lib.hid (has_take_succ s k hlt b H0.out hb)
        have hb' : (((s[k].toNat : Int)) == (b.toNat : Int)) = false := by
          rw [beq_eq_false_iff_ne]
          intro e
          exact hb (UInt8.toNat_inj.1 (by omega))
        clear hb
        go_wp2
        go_round
        case rel => exact ⟨k + 1, by omega, by go_num, H1.out⟩
        case measure => simp [intOf]; omega
    · have : k = s.size := by omega
      subst this
      go_wp2
      go_ret
      refine ⟨?_, rfl⟩
      have h0 := H0.out
      rw [has_all] at h0
      rw [h0]
      rfl

theorem stands_yes (s : ByteArray) (b : UInt8) (w : World) (hs : s.size ≤ 140737488355328) (h : has s.data.toList b = true) :
    Calls Try.prog 32 #[.string s, .int .u8 b.toNat] w fun e w' => e = .returned (.bool true) ∧ w' = w := by
  have := stands_any s b w hs
  rw [h] at this
  exact this

theorem stands_no (s : ByteArray) (b : UInt8) (w : World) (hs : s.size ≤ 140737488355328) (h : has s.data.toList b = false) :
    Calls Try.prog 32 #[.string s, .int .u8 b.toNat] w fun e w' => e = .returned (.bool false) ∧ w' = w := by
  have := stands_any s b w hs
  rw [h] at this
  exact this
end Go.Proofs.Ytocjedheimhfoaa.stands
