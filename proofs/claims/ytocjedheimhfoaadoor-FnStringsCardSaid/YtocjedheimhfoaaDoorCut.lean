/- The walk of strings.Cut at a text of one byte. -/
import Derived.Test.YtocjedheimhfoaaDoorRows
import Derived.Test.YtocjedheimhfoaaDoorPlainCut
import Derived.Test.YtocjedheimhfoaaDoorShelf
import Derived.WalkSpells
import Derived.WalkLawsBesides
import Derived.Outline
import Derived.Deep.QuietTactic
import Derived.BigQuiet
namespace Go.Proofs.YtocjedheimhfoaaDoor.cut
open Go.RowKit pcut
set_option linter.unusedVariables false

theorem ret3 {a b : ByteArray} {c : ByteArray} {d : Bool} (h : a = b) : Ending.returned (.tuple #[.string a, .string c, .bool d]) = .returned (.tuple #[.string b, .string c, .bool d]) := by rw [h]

set_option maxHeartbeats 400000 in
theorem inner_any (s : ByteArray) (b : UInt8) (w : World) (hs : s.size ≤ 1048576) :
    Calls Tryd.prog 41 #[.string s, .string ⟨#[b]⟩] w fun e w' => ∃ a f, e = .returned (.tuple #[.string (head s b), .string a, .bool f]) ∧ ∃ k, w' = w.drewN k := by
  by_cases h : 0 ≤ Lib.indexByte s.data.toList b
  · have he : head s b = s.extract 0 (Lib.indexByte s.data.toList b).toNat := by unfold head firstAt; rw [if_pos h]
    have hlt : Lib.indexByte s.data.toList b + 1 ≤ s.size := by
      obtain ⟨o, ho⟩ := Int.eq_ofNat_of_zero_le h
      have h1 := (List.getElem?_eq_some_iff.1 (Lib.indexByte_some (o := o) ho).1).1
      simp at h1
      omega
    have HE := Lib.hid he
    have HI := Lib.hid (fun w => Tryd.stringslite_Index_one s b w)
    generalize Lib.indexByte s.data.toList b = i at *
    clear he
    obtain ⟨n, rfl⟩ := Int.eq_ofNat_of_zero_le h
    go_enter Tryd.func41, Tryd.ntmps41
    go_wp2_with (go_at_call 43; refine (HI.out _).mono ?_; rintro e w' ⟨rfl, rfl⟩)
    go_quiet (fail)
    go_wp2
    go_ret3
    exact ⟨_, _, by rw [HE.out]; rfl, _, rfl⟩
  · have he : head s b = s := by unfold head firstAt; rw [if_neg h]; simp
    have hn : Lib.indexByte s.data.toList b = -1 := by have := Lib.indexByte_ge s.data.toList b; omega
    have HE := Lib.hid he
    have HI := Lib.hid (show ∀ w, Calls Tryd.prog 43 #[.string s, .string ⟨#[b]⟩] w fun e w' => e = .returned (.int .i64 (-1)) ∧ w = w' from fun w => (Tryd.stringslite_Index_one s b w).mono fun e w' ⟨he, hw⟩ => ⟨by rw [he, hn], hw.symm⟩)
    clear he hn h
    go_enter Tryd.func41, Tryd.ntmps41
    go_wp2_with (go_at_call 43; refine (HI.out _).mono ?_; rintro e w' ⟨rfl, rfl⟩)
    go_ret3
    exact ⟨_, _, by rw [HE.out]; rfl, 0, rfl⟩

theorem cut_any (s : ByteArray) (b : UInt8) (w : World) (hs : s.size ≤ 1048576) :
    Calls Tryd.prog 35 #[.string s, .string ⟨#[b]⟩] w fun e w' => ∃ a f, e = .returned (.tuple #[.string (head s b), .string a, .bool f]) ∧ ∃ k, w' = w.drewN k := by
  go_enter Tryd.func35, Tryd.ntmps35
  go_wp2_with (go_at_call 41; refine (inner_any _ _ _ hs).mono ?_; rintro e w' ⟨a, f, rfl, k, rfl⟩)
  go_ret3
  exact ⟨_, _, rfl, _, rfl⟩
end Go.Proofs.YtocjedheimhfoaaDoor.cut
