/- The walk of the law FnExactParseInt: it returns true. -/
import Derived.Test.YtocjedheimhfoaaDoorParseLaw
namespace Go.Proofs.YtocjedheimhfoaaDoor.parse
open Go.RowKit num format pparse
set_option linter.unusedVariables false

theorem spec_yes (s : ByteArray) (n : Int) (w : World) (hs : s.size ≤ 1048576) (h : P s n) :
    Calls Tryd.prog 14 #[.string s] w fun e w' => e = .returned (.tuple #[.int .i64 n, .bool true]) ∧ ∃ k, w' = w.drewN k := by
  have HR := Lib.hid (show ∀ w, Calls Tryd.prog 29 #[.string s] w fun e w' => e = .returned (.tuple #[.int .i64 n, .bool true]) ∧ ∃ k, w' = w.drewN k from fun w => (read_any s w hs).mono fun e w' ⟨h1, _, h3⟩ => ⟨h1 n h, h3⟩)
  clear h
  go_enter Tryd.func14, Tryd.ntmps14
  go_wp2_with (go_at_call 29; refine (HR.out _).mono ?_; rintro e w' ⟨rfl, k, rfl⟩)
  go_ret2
  exact ⟨rfl, _, rfl⟩

theorem spec_no (s : ByteArray) (w : World) (hs : s.size ≤ 1048576) (h : Hid (∀ n, ¬ P s n)) :
    Calls Tryd.prog 14 #[.string s] w fun e w' => e = .returned (.tuple #[.int .i64 0, .bool false]) ∧ ∃ k, w' = w.drewN k := by
  have HR := Lib.hid (show ∀ w, Calls Tryd.prog 29 #[.string s] w fun e w' => e = .returned (.tuple #[.int .i64 0, .bool false]) ∧ ∃ k, w' = w.drewN k from fun w => (read_any s w hs).mono fun e w' ⟨_, h2, h3⟩ => ⟨h2 h.out, h3⟩)
  go_enter Tryd.func14, Tryd.ntmps14
  go_wp2_with (go_at_call 29; refine (HR.out _).mono ?_; rintro e w' ⟨rfl, k, rfl⟩)
  go_ret2
  exact ⟨rfl, _, rfl⟩

theorem law_big (s : ByteArray) (w : World) (h : 1048576 < s.size) (hm : s.size ≤ 9223372036854775807) :
    Calls Tryd.prog 5 #[.string s] w fun e w' => e = .returned (.bool true) ∧ Below w.heap.size w w' := by
  go_enter Tryd.func5, Tryd.ntmps5
  go_wp2_with fail
  go_ret
  exact ⟨rfl, Below.refl _ _⟩

theorem law_of (o : Int) (ok : Bool) (s : ByteArray) (w : World) (ht : Hid (Tab w)) (h : s.size ≤ 1048576)
    (hspec : Hid (Calls Tryd.prog 14 #[.string s] w fun e w' => e = .returned (.tuple #[.int .i64 o, .bool ok]) ∧ ∃ k, w' = w.drewN k))
    (himpl : Hid (∀ w, Hid (Tab w) → Calls Tryd.prog 13 #[.string s] w fun e w' => e = .returned (.tuple #[.int .i64 o, .bool ok]) ∧ Below w.heap.size w w')) :
    Calls Tryd.prog 5 #[.string s] w fun e w' => e = .returned (.bool true) ∧ Below w.heap.size w w' := by
  go_enter Tryd.func5, Tryd.ntmps5
  go_wp2_with (go_at_call 14; refine hspec.out.mono ?_; rintro e w' ⟨rfl, k, rfl⟩; refine Hid.out ?_)
  refine Lib.hid ?_
  have HB := Lib.hid (below_drewN (Below.refl w.heap.size w) k)
  have ht' : Hid (Tab (w.drewN k)) := Tab.below ht HB.out
  go_wp2_with (go_at_call 13; refine (himpl.out _ ht').mono ?_; rintro e w' ⟨rfl, hb⟩)
  go_ret
  exact ⟨rfl, HB.out.trans (hb.mono HB.out.size)⟩

theorem law (s : ByteArray) (w : World) (w0 : s.size ≤ maxLen) (ht : Hid (Tab w)) :
    Calls Tryd.prog 5 #[.string s] w fun e w' => e = .returned (.bool true) ∧ Below w.heap.size w w' := by
  unfold maxLen at w0
  by_cases hb : 1048576 < s.size
  · exact law_big s w hb w0
  have hm : s.size ≤ 1048576 := by omega
  by_cases hf : ∃ n, P s n
  · obtain ⟨n, hn⟩ := hf
    exact law_of _ _ s w ht hm (Lib.hid (spec_yes s n w hm hn)) (Lib.hid fun w ht => impl_yes s n w ht hm hn)
  · have hf' : ∀ n, ¬ P s n := fun n hn => hf ⟨n, hn⟩
    exact law_of _ _ s w ht hm (Lib.hid (spec_no s w hm (Lib.hid hf'))) (Lib.hid fun w ht => impl_no s w ht hm (Lib.hid hf'))
end Go.Proofs.YtocjedheimhfoaaDoor.parse
