/- The walks of SplitString's cases and of the law FnExactSplitString: it returns true. -/
import Derived.Test.YtocjedheimhfoaaRows
import Derived.Test.YtocjedheimhfoaaStrFns
import Derived.Test.YtocjedheimhfoaaSplitSpec
import Derived.Test.YtocjedheimhfoaaSplitImpl
import Derived.Test.YtocjedheimhfoaaMarks
namespace Go.Proofs.Ytocjedheimhfoaa.splitlaw
open Go.RowKit psplit
set_option linter.unusedVariables false

/-- A slice of the call's own, and a bool. -/
def Gives (ss : List ByteArray) (ok : Bool) (w : World) (e : Ending) (w' : World) : Prop :=
  ∃ g cap, e = .returned (.tuple #[.slice (some ⟨g, 0, none⟩) ss.length cap, .bool ok]) ∧ w.heap.size ≤ g ∧ w'.ownsRow w.heap.size 9 1 (.slice (some ⟨g, 0, none⟩) ss.length cap) ss.length (ss.map Value.string) ∧ Below w.heap.size w w'

theorem empty_gives (w : World) : Gives [] false w (.returned (.tuple #[.slice (some ⟨w.heap.size, 0, none⟩) 0 0, .bool false])) (w.alloc (.cells #[] 9)) :=
  ⟨w.heap.size, 0, rfl, Nat.le_refl _, World.ownsRow_made w #[] 0 (Nat.le_refl _) (by unfold maxLen; omega) rfl, (Below.refl _ _).alloc (Nat.le_refl _) _⟩

theorem impl_yes (s : ByteArray) (b : UInt8) (w : World) (hs : s.size ≤ 4000) :
    Calls Try.prog 10 #[.string s, .string ⟨#[b]⟩] w (Gives (pieces s b) true w) :=
  (callsIn_wide.1 (splitimpl.split_in 4 (Nat.le_refl _) s b w hs)).mono fun e w' ⟨v, he, ho, hb⟩ => by
    obtain ⟨g, cap, hv, hg⟩ := splitspec.owns_pos ho (pieces_pos s b)
    subst hv
    exact ⟨g, cap, he, hg, ho, hb⟩

theorem impl_no (s sep : ByteArray) (w : World) (hs : s.size ≤ 1048576) (hm : sep.size ≤ 1048576) (h : (decide (s.size ≤ 4000) && decide (sep.size = 1)) = false) :
    Calls Try.prog 10 #[.string s, .string sep] w (Gives [] false w) := by
  by_cases h1 : 4000 < s.size
  · clear h
    go_enter Try.func10, Try.ntmps10
    go_wp2_with fail
    go_ret2
    exact empty_gives w
  · have h2 : sep.size ≠ 1 := by intro e; simp [e] at h; omega
    have h3 : ((sep.size : Int) != 1) = true := by simp; omega
    have h4 : decide (4000 < (s.size : Int)) = false := by simp; omega
    clear h h2
    go_enter Try.func10, Try.ntmps10
    go_wp2_with fail
    go_ret2
    exact empty_gives w

theorem spec_no (s sep : ByteArray) (w : World) (hs : s.size ≤ 1048576) (hm : sep.size ≤ 1048576) (h : (decide (s.size ≤ 4000) && decide (sep.size = 1)) = false) :
    Calls Try.prog 17 #[.string s, .string sep] w (Gives [] false w) := by
  by_cases h2 : sep.size = 1
  · have h1 : 4000 < s.size := by simp [h2] at h; omega
    have h3 : ((sep.size : Int) != 1) = false := by rw [h2]; rfl
    clear h h2
    go_enter Try.func17, Try.ntmps17
    go_wp2_with fail
    go_ret2
    exact empty_gives w
  · have h3 : ((sep.size : Int) != 1) = true := by simp; omega
    clear h h2
    go_enter Try.func17, Try.ntmps17
    go_wp2_with fail
    go_ret2
    exact empty_gives w

theorem spec_yes (s : ByteArray) (b : UInt8) (w : World) (hs : s.size ≤ 4000) :
    Calls Try.prog 17 #[.string s, .string ⟨#[b]⟩] w (Gives (pieces s b) true w) := by
  have hb0 : ((ByteArray.mk #[b])[0]'(by show 0 < 1; omega)) = b := rfl
  go_enter Try.func17, Try.ntmps17
  go_wp2_with (go_at_call 33; refine (splitspec.l1Split_own s b _ (by omega)).mono ?_; rintro e w1 ⟨g, cap, rfl, hown, hb⟩; refine Hid.out ?_)
  refine Lib.hid ?_
  have hlt := (hown.lt g rfl).1
  have HO := Lib.hid hown
  have HB := Lib.hid hb
  clear hown hb
  go_wp2_with fail
  go_ret2
  exact ⟨g, cap, rfl, hlt, HO.out, HB.out⟩

set_option maxHeartbeats 2000000 in
theorem law_of (ss : List ByteArray) (ok : Bool) (s sep : ByteArray) (w : World) (hs : s.size ≤ 1048576) (hm : sep.size ≤ 1048576) (hn : ss.length ≤ 5000)
    (hspec : Hid (∀ w, Calls Try.prog 17 #[.string s, .string sep] w (Gives ss ok w))) (himpl : Hid (∀ w, Calls Try.prog 10 #[.string s, .string sep] w (Gives ss ok w))) :
    Calls Try.prog 4 #[.string s, .string sep] w fun e w' => e = .returned (.bool true) ∧ Below w.heap.size w w' := by
  go_enter Try.func4, Try.ntmps4
  go_wp2_with fail
  refine (hspec.out w).mono ?_
  rintro e w1 ⟨g0, c0, rfl, hg0, ho0, hb0⟩
  have hr0 := strs.reads_of_owns ho0
  have hlt0 := (ho0.lt g0 rfl).2
  have HO0 := Lib.hid ho0
  have HB1 := Lib.hid hb0
  clear ho0 hb0
  go_wp2_with fail
  refine (himpl.out w1).mono ?_
  rintro e w2 ⟨g1, c1, rfl, hg1, ho1, hb1⟩
  have hr1 := strs.reads_of_owns ho1
  have hr0b := hr0.below hb1
  have hlt1 := (ho1.lt g1 rfl).2
  have HO1 := Lib.hid ho1
  have HB2 := Lib.hid (HB1.out.trans (hb1.mono HB1.out.size))
  have hs2 := hb1.size
  clear ho1 hb1 hr0
  go_wp2_with fail
  refine (strfns.eq_same _ _ ss _ _ w2 hr1 hr0b (by omega)).mono ?_
  rintro e w3 ⟨rfl, hb3⟩
  have HB3 := Lib.hid (HB2.out.trans (hb3.mono HB2.out.size))
  have ho3 : w3.ownsRow w1.heap.size 9 1 (.slice (some ⟨g1, 0, none⟩) ss.length c1) ss.length (ss.map Value.string) := HO1.out.kept ⟨hb3.os, hb3.tape, hb3.output, hb3.size, fun j hj _ => hb3.block j hj⟩ (row := none) (.inr (by simp [Value.ownBlock]))
  have hr0c := hr0b.below hb3
  have hs3 := hb3.size
  clear hb3 hr0b hr1
  go_wp2_with fail
  refine (marks.mark_any w1.heap.size g1 c1 ss 1 w3 ho3 (by omega) (by omega)).mono ?_
  rintro e w4 ⟨rfl, ho4, hg4⟩
  have hrow4 : w4.ownsRow w1.heap.size 9 1 (.slice (some ⟨g1, 0, none⟩) (marks.row 1 ss.length).length c1) (marks.row 1 ss.length).length ((marks.row 1 ss.length).map Value.string) := by rw [marks.row_length]; exact ho4
  have hm4 := strs.reads_of_owns hrow4
  have hg0s : g0 < g1 := by omega
  have hr0d : strs.Reads w4 (some ⟨g0, 0, none⟩) ss := by
    rcases hr0c with h | ⟨b, off, e, hb, hc⟩
    · exact .inl h
    · cases e
      exact .inr ⟨g0, 0, rfl, Nat.lt_of_lt_of_le hb hg4.size, fun i hi => (World.cell?_of_block (w := w3) (hg4.block g0 hb (fun e => by simp at e; omega))).trans (hc i hi)⟩
  have HB4 := Lib.hid (HB3.out.grown hg4 HB3.out.size (fun j e => by cases e; omega))
  have hs4 := hg4.size
  clear ho3 ho4 hg4 hrow4 hr0c
  go_wp2_with fail
  refine (marks.held_any _ _ ss.length 1 w4 hm4 (by omega) (by omega)).mono ?_
  rintro e w5 ⟨rfl, hb5⟩
  have HB5 := Lib.hid (HB4.out.trans (hb5.mono HB4.out.size))
  have hr0e := hr0d.below hb5
  have hm5 := hm4.below hb5
  clear hb5 hr0d hm4
  go_wp2_with fail
  refine (himpl.out w5).mono ?_
  rintro e w6 ⟨g2, c2, rfl, hg2, ho6, hb6⟩
  have hr6 := strs.reads_of_owns ho6
  have hr0f := hr0e.below hb6
  have hm6 := hm5.below hb6
  have HB6 := Lib.hid (HB5.out.trans (hb6.mono HB5.out.size))
  clear ho6 hb6 hr0e hm5
  go_wp2_with fail
  refine (strfns.eq_same _ _ ss _ _ w6 hr6 hr0f (by omega)).mono ?_
  rintro e w7 ⟨rfl, hb7⟩
  have HB7 := Lib.hid (HB6.out.trans (hb7.mono HB6.out.size))
  have hm7 := hm6.below hb7
  clear hb7 hm6
  go_wp2_with fail
  refine (marks.held_any _ _ ss.length 1 w7 hm7 (by omega) (by omega)).mono ?_
  rintro e w8 ⟨rfl, hb8⟩
  have HB8 := Lib.hid (HB7.out.trans (hb8.mono HB7.out.size))
  clear hb8 hm7
  go_wp2_with fail
  go_ret
  exact ⟨rfl, HB8.out⟩

theorem law_big1 (s sep : ByteArray) (w : World) (hs : 1048576 < s.size) (hm : s.size ≤ 9223372036854775807) :
    Calls Try.prog 4 #[.string s, .string sep] w fun e w' => e = .returned (.bool true) ∧ Below w.heap.size w w' := by
  go_enter Try.func4, Try.ntmps4
  go_wp2_with fail
  go_ret
  exact ⟨rfl, Below.refl _ _⟩

theorem law_big2 (s sep : ByteArray) (w : World) (hs : s.size ≤ 1048576) (hm : 1048576 < sep.size) (hm2 : sep.size ≤ 9223372036854775807) :
    Calls Try.prog 4 #[.string s, .string sep] w fun e w' => e = .returned (.bool true) ∧ Below w.heap.size w w' := by
  go_enter Try.func4, Try.ntmps4
  go_wp2_with fail
  go_ret
  exact ⟨rfl, Below.refl _ _⟩

theorem law (s sep : ByteArray) (w : World) (w0 : s.size ≤ maxLen) (w1 : sep.size ≤ maxLen) :
    Calls Try.prog 4 #[.string s, .string sep] w fun e w' => e = .returned (.bool true) ∧ Below w.heap.size w w' := by
  unfold maxLen at w0 w1
  by_cases h1 : 1048576 < s.size
  · exact law_big1 s sep w h1 w0
  by_cases h2 : 1048576 < sep.size
  · exact law_big2 s sep w (by omega) h2 w1
  by_cases h : (decide (s.size ≤ 4000) && decide (sep.size = 1)) = false
  · exact law_of [] false s sep w (by omega) (by omega) (by simp) (Lib.hid fun w => spec_no s sep w (by omega) (by omega) h) (Lib.hid fun w => impl_no s sep w (by omega) (by omega) h)
  have h' : s.size ≤ 4000 ∧ sep.size = 1 := by simpa using h
  obtain ⟨b, rfl⟩ : ∃ b, sep = ⟨#[b]⟩ := by
    obtain ⟨⟨l⟩⟩ := sep
    have hl1 : l.length = 1 := h'.2
    match l, hl1 with
    | [b], _ => exact ⟨b, rfl⟩
  have hl := pieces_length s b
  exact law_of (pieces s b) true s _ w (by omega) (by omega) (by omega) (Lib.hid fun w => spec_yes s b w h'.1) (Lib.hid fun w => impl_yes s b w h'.1)
end Go.Proofs.Ytocjedheimhfoaa.splitlaw
