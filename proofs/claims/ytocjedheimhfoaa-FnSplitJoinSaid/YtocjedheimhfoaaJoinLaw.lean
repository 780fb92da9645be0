/- The walk of the law FnExactJoinStrings: it returns true and leaves what was there as it was. -/
import Derived.Test.YtocjedheimhfoaaRows
import Derived.Test.YtocjedheimhfoaaStrFns
import Derived.Test.YtocjedheimhfoaaJoinSpec
import Derived.Test.YtocjedheimhfoaaJoinImpl
namespace Go.Proofs.Ytocjedheimhfoaa.joinlaw
open Go.RowKit pjoin
set_option linter.unusedVariables false

theorem big_sep (a : Option Addr) (n c : Nat) (sep : ByteArray) (w : World) (hs : 1048576 < sep.size) (hm : sep.size ≤ 9223372036854775807) :
    Calls Try.prog 5 #[.slice a n c, .string sep] w fun e w' => e = .returned (.bool true) ∧ Below w.heap.size w w' := by
  go_enter Try.func5, Try.ntmps5
  go_wp2_with fail
  go_ret
  exact ⟨rfl, Below.refl _ _⟩

theorem big_list (a : Option Addr) (ss : List ByteArray) (c : Nat) (sep : ByteArray) (w : World) (hs : sep.size ≤ 1048576) (hr : strs.Reads w a ss) (hl : ss.length ≤ 9223372036854775807) (hss : ∀ s ∈ ss, s.size ≤ 9223372036854775807)
    (h0 : (1048576 : Int) < (ss.length : Int) + (strs.tot ss : Int)) :
    Calls Try.prog 5 #[.slice a ss.length c, .string sep] w fun e w' => e = .returned (.bool true) ∧ Below w.heap.size w w' := by
  have HSS := Lib.hid hss
  clear hss
  go_enter Try.func5, Try.ntmps5
  go_wp2_with (go_at_call 21; refine (strfns.sz_no a ss c _ _ hr hl HSS.out h0 (by omega) (by omega)).mono ?_; rintro e w' ⟨rfl, rfl⟩)
  go_ret
  exact ⟨rfl, Below.refl _ _⟩

/-- The rest of the law, whatever both functions agree on. -/
theorem small_any (v : Value) (o : ByteArray) (ok : Bool) (hv : v = .tuple #[.string o, .bool ok]) (a : Option Addr) (ss : List ByteArray) (c : Nat) (sep : ByteArray) (w : World) (hs : sep.size ≤ 1048576) (hr : strs.Reads w a ss)
    (h0 : (ss.length : Int) + (strs.tot ss : Int) ≤ 1048576)
    (hspec : ∀ (a : Option Addr) (w : World), strs.Reads w a ss → Calls Try.prog 13 #[.slice a ss.length ss.length, .string sep] w fun e w' => e = .returned v ∧ Below w.heap.size w w')
    (himpl : ∀ (a : Option Addr) (w : World), strs.Reads w a ss → Calls Try.prog 12 #[.slice a ss.length ss.length, .string sep] w fun e w' => e = .returned v ∧ Below w.heap.size w w') :
    Calls Try.prog 5 #[.slice a ss.length c, .string sep] w fun e w' => e = .returned (.bool true) ∧ Below w.heap.size w w' := by
  subst hv
  have HSpec := Lib.hid hspec
  have HImpl := Lib.hid himpl
  clear hspec himpl
  go_enter Try.func5, Try.ntmps5
  go_wp2_with (go_at_call 21; refine (strfns.sz_yes a ss c _ _ hr h0 (by omega)).mono ?_; rintro e w' ⟨rfl, rfl⟩)
  refine (strfns.to_any a ss c w hr (by omega)).mono ?_
  rintro e w1 ⟨rfl, hown1, hb1⟩
  have hr1 := strs.reads_of_owns hown1
  have hra1 := hr.below hb1
  have HB1 := Lib.hid hb1
  clear hown1 hb1
  go_wp2_with fail
  refine (HSpec.out _ w1 hr1).mono ?_
  rintro e w2 ⟨rfl, hb2⟩
  have hra2 := hra1.below hb2
  have HB2 := Lib.hid (HB1.out.trans (hb2.mono HB1.out.size))
  clear hb2
  go_wp2_with fail
  refine (strfns.to_any a ss c w2 hra2 (by omega)).mono ?_
  rintro e w3 ⟨rfl, hown3, hb3⟩
  have hr3 := strs.reads_of_owns hown3
  have hra3 := hra2.below hb3
  have HB3 := Lib.hid (HB2.out.trans (hb3.mono HB2.out.size))
  clear hown3 hb3
  go_wp2_with fail
  refine (HImpl.out _ w3 hr3).mono ?_
  rintro e w4 ⟨rfl, hb4⟩
  have hra4 := hra3.below hb4
  have hr4 := hr3.below hb4
  have HB4 := Lib.hid (HB3.out.trans (hb4.mono HB3.out.size))
  clear hb4
  go_wp2_with fail
  refine (strfns.to_any a ss c w4 hra4 (by omega)).mono ?_
  rintro e w5 ⟨rfl, hown5, hb5⟩
  have hr5 := strs.reads_of_owns hown5
  have hr45 := hr4.below hb5
  have HB5 := Lib.hid (HB4.out.trans (hb5.mono HB4.out.size))
  clear hown5 hb5
  go_wp2_with fail
  refine (strfns.eq_same _ _ ss _ _ w5 hr45 hr5 (by omega)).mono ?_
  rintro e w6 ⟨rfl, hb6⟩
  have HB6 := Lib.hid (HB5.out.trans (hb6.mono HB5.out.size))
  clear hb6
  go_wp2_with fail
  go_ret
  exact ⟨rfl, HB6.out⟩

theorem below_of_eq {w w' : World} (h : w = w') : Below w.heap.size w w' := by subst h; exact Below.refl _ _

theorem law (a : Option Addr) (ss : List ByteArray) (c : Nat) (sep : ByteArray) (w : World) (hr : strs.Reads w a ss) (hss : ∀ s ∈ ss, s.size ≤ maxLen) (hl : ss.length ≤ maxLen) (hm : sep.size ≤ maxLen) :
    Calls Try.prog 5 #[.slice a ss.length c, .string sep] w fun e w' => e = .returned (.bool true) ∧ Below w.heap.size w w' := by
  unfold maxLen at hss hl hm
  by_cases h1 : 1048576 < sep.size
  · exact big_sep a _ c sep w h1 hm
  by_cases h0 : (1048576 : Int) < (ss.length : Int) + (strs.tot ss : Int)
  · exact big_list a ss c sep w (by omega) hr hl hss h0
  by_cases hb : (decide (sep.size = 1) && decide (0 < ss.length)) = false
  · exact small_any bad ByteArray.empty false rfl a ss c sep w (by omega) hr (by omega)
      (fun a w _ => (joinspec.bad_any a _ _ sep w (by omega) (by omega) hb).mono fun _ _ ⟨he, hw⟩ => ⟨he, below_of_eq hw⟩)
      (fun a w _ => (joinimpl.bad_any a _ _ sep w (by omega) (by omega) hb).mono fun _ _ ⟨he, hw⟩ => ⟨he, below_of_eq hw⟩)
  have hb' : sep.size = 1 ∧ 0 < ss.length := by simp at hb; exact ⟨hb.1, List.length_pos_iff.2 hb.2⟩
  obtain ⟨b, rfl⟩ : ∃ b, sep = ⟨#[b]⟩ := by
    obtain ⟨⟨l⟩⟩ := sep
    have hl1 : l.length = 1 := hb'.1
    match l, hl1 with
    | [b], _ => exact ⟨b, rfl⟩
  by_cases hok : ok ss b = true
  · exact small_any (good (jn ss [b])) _ true rfl a ss c _ w (by omega) hr (by omega)
      (fun a w hr' => (joinspec.main_any a ss _ _ b w hr' hb'.2 (by omega) (by omega) (by omega) (Lib.hid rfl)).mono fun _ _ ⟨he, hw⟩ => ⟨he.trans (congrArg _ (res_yes hok)), hw⟩)
      (fun a w hr' => joinimpl.yes_any a ss _ b w hr' hb'.2 (by omega) (Lib.hid hok) (Nat.le_refl _))
  · have hno : ok ss b = false := by simpa using hok
    exact small_any bad ByteArray.empty false rfl a ss c _ w (by omega) hr (by omega)
      (fun a w hr' => (joinspec.main_any a ss _ _ b w hr' hb'.2 (by omega) (by omega) (by omega) (Lib.hid rfl)).mono fun _ _ ⟨he, hw⟩ => ⟨he.trans (congrArg _ (res_no hno)), hw⟩)
      (fun a w hr' => (joinimpl.no_any a ss _ b w hr' hb'.2 (by omega) (Lib.hid hno)).mono fun _ _ ⟨he, hw⟩ => ⟨he, below_of_eq hw⟩)
end Go.Proofs.Ytocjedheimhfoaa.joinlaw
