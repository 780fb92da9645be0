/- The walk of the law FnSplitJoin: it returns true. -/
import Derived.Test.YtocjedheimhfoaaDrawSplit
import Derived.Test.YtocjedheimhfoaaSplitJoinPlain
import Derived.Test.YtocjedheimhfoaaSplitLaw
import Derived.Test.YtocjedheimhfoaaJoinLaw
import Derived.Test.YtocjedheimhfoaaLess
namespace Go.Proofs.Ytocjedheimhfoaa.splitjoin
open Go.RowKit ints draw drawany pjoin psplit
set_option linter.unusedVariables false

theorem vBig_no (a : Option Addr) (n c : Nat) (w : World) (hn : n ≤ 65536) :
    Calls Try.prog 8 #[.slice a n c] w fun e w' => e = .returned (.bool false) ∧ w = w' := by
  have h : decide ((65536 : Int) < n) = false := by simp; omega
  go_enter Try.func8, Try.ntmps8
  go_wp2
  go_ret
  exact ⟨rfl, rfl⟩

theorem vBig_yes (a : Option Addr) (n c : Nat) (w : World) (hn : 65536 < n) (hm : n ≤ 9223372036854775807) :
    Calls Try.prog 8 #[.slice a n c] w fun e w' => e = .returned (.bool true) ∧ w = w' := by
  have h : decide ((65536 : Int) < n) = true := by simp; omega
  go_enter Try.func8, Try.ntmps8
  go_wp2
  go_ret
  exact ⟨rfl, rfl⟩

def JoinsTo (f : Nat) (ss : List ByteArray) (sep o : ByteArray) (ok : Bool) : Prop :=
  ∀ (p : Option Addr) (cap : Nat) (w : World), ss.length ≤ cap → strs.Reads w p ss → Calls Try.prog f #[.slice p ss.length cap, .string sep] w fun e w' => e = .returned (.tuple #[.string o, .bool ok]) ∧ Below w.heap.size w w'

theorem join_both (ss : List ByteArray) (sep : ByteArray) (h0 : ss.length ≤ 4) (h1 : strs.tot ss ≤ 5000) (h2 : sep.size ≤ 2) : ∃ (o : ByteArray) (ok : Bool),
    Hid (JoinsTo 12 ss sep o ok) ∧ Hid (JoinsTo 13 ss sep o ok) := by
  by_cases hb : (decide (sep.size = 1) && decide (0 < ss.length)) = false
  · exact ⟨ByteArray.empty, false,
      Lib.hid fun p cap w _ _ => (joinimpl.bad_any p _ _ sep w (by omega) (by omega) hb).mono fun _ _ ⟨he, hw⟩ => ⟨he, joinlaw.below_of_eq hw⟩,
      Lib.hid fun p cap w _ _ => (joinspec.bad_any p _ _ sep w (by omega) (by omega) hb).mono fun _ _ ⟨he, hw⟩ => ⟨he, joinlaw.below_of_eq hw⟩⟩
  have hb' : sep.size = 1 ∧ 0 < ss.length := by simp at hb; exact ⟨hb.1, List.length_pos_iff.2 hb.2⟩
  obtain ⟨b, rfl⟩ : ∃ b, sep = ⟨#[b]⟩ := by
    obtain ⟨⟨l⟩⟩ := sep
    have hl1 : l.length = 1 := hb'.1
    match l, hl1 with
    | [b], _ => exact ⟨b, rfl⟩
  by_cases hok : ok ss b = true
  · exact ⟨_, true,
      Lib.hid fun p cap w hc hr => joinimpl.yes_any p ss cap b w hr hb'.2 (by omega) (Lib.hid hok) hc,
      Lib.hid fun p cap w hc hr => (joinspec.main_any p ss cap _ b w hr hb'.2 (by omega) (by omega) (by omega) (Lib.hid rfl)).mono fun _ _ ⟨he, hw⟩ => ⟨he.trans (congrArg _ (res_yes hok)), hw⟩⟩
  · have hno : ok ss b = false := by simpa using hok
    exact ⟨ByteArray.empty, false,
      Lib.hid fun p cap w hc hr => (joinimpl.no_any p ss cap b w hr hb'.2 (by omega) (Lib.hid hno)).mono fun _ _ ⟨he, hw⟩ => ⟨he, joinlaw.below_of_eq hw⟩,
      Lib.hid fun p cap w hc hr => (joinspec.main_any p ss cap _ b w hr hb'.2 (by omega) (by omega) (by omega) (Lib.hid rfl)).mono fun _ _ ⟨he, hw⟩ => ⟨he.trans (congrArg _ (res_no hno)), hw⟩⟩

def SplitsTo (s sep : ByteArray) (ss : List ByteArray) (ok : Bool) : Prop :=
  ∀ w, Calls Try.prog 10 #[.string s, .string sep] w fun e w' => ∃ (p : Option Addr) (cap : Nat), e = .returned (.tuple #[.slice p ss.length cap, .bool ok]) ∧ ss.length ≤ cap ∧ strs.Reads w' p ss ∧ Below w.heap.size w w'

theorem splits_of {s sep : ByteArray} {ss : List ByteArray} {ok : Bool} (h : ∀ w, Calls Try.prog 10 #[.string s, .string sep] w (splitlaw.Gives ss ok w)) : SplitsTo s sep ss ok := fun w =>
  (h w).mono fun e w' ⟨g, cap, he, hg, ho, hb⟩ => by
    obtain ⟨p, cap', hv, hc, hr⟩ := drawsplit.own_read ho
    exact ⟨p, cap', by rw [he, hv], hc, hr, hb⟩

theorem split_cases (s sep : ByteArray) (h1 : s.size ≤ 10) (h2 : sep.size ≤ 2) : ∃ (ss : List ByteArray) (ok : Bool),
    Hid (SplitsTo s sep ss ok) ∧ ss.length ≤ 11 ∧ Hid ((((sep.size : Int) != 1) = true ∧ ss.length = 0 ∧ ok = false) ∨ (((sep.size : Int) != 1) = false ∧ ok = true ∧ Hid (JoinsTo 12 ss sep s true))) := by
  by_cases hs : sep.size = 1
  · obtain ⟨b, rfl⟩ : ∃ b, sep = ⟨#[b]⟩ := by
      obtain ⟨⟨l⟩⟩ := sep
      have hl1 : l.length = 1 := hs
      match l, hl1 with
      | [b], _ => exact ⟨b, rfl⟩
    have hl := pieces_length s b
    refine ⟨pieces s b, true, Lib.hid (splits_of fun w => splitlaw.impl_yes s b w (by omega)), by omega, Lib.hid (.inr ⟨rfl, rfl, Lib.hid fun p cap w hc hr => ?_⟩)⟩
    have ht := sjplain.tot_pieces s b
    have := joinimpl.yes_any p (pieces s b) cap b w hr (pieces_pos s b) (by omega) (Lib.hid (sjplain.ok_pieces s b (by omega))) hc
    rw [sjplain.join_pieces] at this
    exact this
  · exact ⟨[], false, Lib.hid (splits_of fun w => splitlaw.impl_no s sep w (by omega) (by omega) (by simp [hs])), by simp, Lib.hid (.inl ⟨by simp; omega, rfl, rfl⟩)⟩

theorem law_big (a : Option Addr) (n c : Nat) (w : World) (hn : 65536 < n) (hm : n ≤ 9223372036854775807) :
    Calls Try.prog 3 #[.slice a n c] w fun e w' => e = .returned (.bool true) ∧ Below w.heap.size w w' := by
  go_enter Try.func3, Try.ntmps3
  go_wp2_with (go_at_call 8; refine (vBig_yes _ _ _ _ hn hm).mono ?_; rintro e w' ⟨rfl, rfl⟩)
  go_ret
  exact ⟨rfl, Below.refl _ _⟩

theorem less_of (a b : ByteArray) : ∃ x y : Bool, (x = false ∨ y = false) ∧
    Hid (∀ w, Calls Try.prog 15 #[.string a, .string b] w fun e w' => e = .returned (.bool x) ∧ w = w') ∧
    Hid (∀ w, Calls Try.prog 16 #[.string a, .string b] w fun e w' => e = .returned (.bool x) ∧ w = w') ∧
    Hid (∀ w, Calls Try.prog 15 #[.string b, .string a] w fun e w' => e = .returned (.bool y) ∧ w = w') := by
  refine ⟨_, _, ?_, Lib.hid (less.impl_any a b), Lib.hid (less.spec_any a b), Lib.hid (less.impl_any b a)⟩
  cases h : Op.bytesLess a.toList b.toList with
  | false => exact .inl rfl
  | true => exact .inr (sjplain.less_asymm _ _ h)

set_option maxHeartbeats 4000000 in
theorem law_small (a : Option Addr) (zs : List Int) (c : Nat) (w : World) (h : drawany.Code w a zs) (hn : zs.length ≤ 65536) :
    Calls Try.prog 3 #[.slice a zs.length c] w fun e w' => e = .returned (.bool true) ∧ Below w.heap.size w w' := by
  go_enter Try.func3, Try.ntmps3
  go_wp2_with (go_at_call 8; refine (vBig_no _ _ _ _ hn).mono ?_; rintro e w' ⟨rfl, rfl⟩; refine Hid.out ?_)
  refine Lib.hid ?_
  go_wp2_with fail
  refine (drawsplit.split_any a zs c w h).mono ?_
  rintro e w1 ⟨s, sep, rfl, hs, hsep, hb⟩
  have HB1 := Lib.hid hb
  have h1 := h.below hb
  clear hb
  obtain ⟨ss, ok, HS, hss, HC⟩ := split_cases s sep hs hsep
  go_wp2_with fail
  refine (HS.out w1).mono ?_
  rintro e w2 ⟨p, cap, rfl, hcap, hr, hb⟩
  have HB2 := Lib.hid (HB1.out.trans (hb.mono HB1.out.size))
  have h2 := h1.below hb
  have hr2 := hr
  clear hb hr
  go_wp2_with fail
  refine (drawsplit.join_any a zs c w2 h2).mono ?_
  rintro e w3 ⟨k, q, qcap, mark, rfl, hqc, hk, htot, hmark, hq, hb⟩
  have HB3 := Lib.hid (HB2.out.trans (hb.mono HB2.out.size))
  have h3 := h2.below hb
  have hr3 := hr2.below hb
  clear hb
  obtain ⟨o, fine, HJ1, HJ2⟩ := join_both k mark hk htot hmark
  go_wp2_with fail
  refine (HJ1.out q qcap w3 hqc hq).mono ?_
  rintro e w4 ⟨rfl, hb⟩
  have HB4 := Lib.hid (HB3.out.trans (hb.mono HB3.out.size))
  have h4 := h3.below hb
  have hr4 := hr3.below hb
  have hq4 := hq.below hb
  clear hb
  go_wp2_with fail
  refine (HJ2.out q qcap w4 hqc hq4).mono ?_
  rintro e w5 ⟨rfl, hb⟩
  have HB5 := Lib.hid (HB4.out.trans (hb.mono HB4.out.size))
  have h5 := h4.below hb
  have hr5 := hr4.below hb
  clear hb
  go_wp2_with fail
  refine (drawsplit.less_any a zs c w5 h5).mono ?_
  rintro e w6 ⟨x, y, rfl, hx, hy, hb⟩
  have HB6 := Lib.hid (HB5.out.trans (hb.mono HB5.out.size))
  have hr6 := hr5.below hb
  clear hb
  obtain ⟨u, v, HUV, HL1, HL2, HL3⟩ := less_of x y
  go_wp2_with fail
  refine (HL1.out w6).mono ?_
  rintro e w7 ⟨rfl, rfl⟩
  go_wp2_with fail
  refine (HL2.out w6).mono ?_
  rintro e w7 ⟨rfl, rfl⟩
  go_wp2_with fail
  refine (HL1.out w6).mono ?_
  rintro e w7 ⟨rfl, rfl⟩
  cases u with
  | false =>
    clear HUV HL1 HL2 HL3
    rcases HC.out with ⟨e1, e2, rfl⟩ | ⟨e1, rfl, HJ⟩
    · have e3 : ((ss.length : Int) == 0) = true := by rw [e2]; rfl
      go_wp2_with fail
      go_ret
      exact ⟨by simp, HB6.out⟩
    · go_wp2_with fail
      refine (HJ.out p cap w6 hcap hr6).mono ?_
      rintro e w7 ⟨rfl, hb⟩
      have HB7 := Lib.hid (HB6.out.trans (hb.mono HB6.out.size))
      clear hb
      go_wp2_with fail
      go_ret
      exact ⟨rfl, HB7.out⟩
  | true =>
    have hv : v = false := by simpa using HUV
    subst hv
    go_wp2_with fail
    refine (HL3.out w6).mono ?_
    rintro e w7 ⟨rfl, rfl⟩
    clear HUV HL1 HL2 HL3
    rcases HC.out with ⟨e1, e2, rfl⟩ | ⟨e1, rfl, HJ⟩
    · have e3 : ((ss.length : Int) == 0) = true := by rw [e2]; rfl
      go_wp2_with fail
      go_ret
      exact ⟨by simp, HB6.out⟩
    · go_wp2_with fail
      refine (HJ.out p cap w6 hcap hr6).mono ?_
      rintro e w7 ⟨rfl, hb⟩
      have HB7 := Lib.hid (HB6.out.trans (hb.mono HB6.out.size))
      clear hb
      go_wp2_with fail
      go_ret
      exact ⟨rfl, HB7.out⟩

theorem law (a : Option Addr) (zs : List Int) (c : Nat) (w : World) (hr : Reads .u8 w a zs) (hz : ∀ i, i < zs.length → 0 ≤ zs.getD i 0 ∧ zs.getD i 0 ≤ 255) (hl : zs.length ≤ maxLen) :
    Calls Try.prog 3 #[.slice a zs.length c] w fun e w' => e = .returned (.bool true) ∧ Below w.heap.size w w' := by
  unfold maxLen at hl
  by_cases hn : 65536 < zs.length
  · exact law_big a _ c w hn hl
  · exact law_small a zs c w ⟨hz, hr, by omega⟩ (by omega)
end Go.Proofs.Ytocjedheimhfoaa.splitjoin
