/- The walk of the law FnExactVerifyChecksum: it returns true. -/
import Derived.Test.YtocjedheimhfoaaDoorVerify
namespace Go.Proofs.YtocjedheimhfoaaDoor.verify
open Go.RowKit num pjoin format pcut
set_option linter.unusedVariables false

theorem law_big (s : ByteArray) (w : World) (h : 1048576 < s.size) (hm : s.size ≤ 9223372036854775807) :
    Calls Tryd.prog 7 #[.string s] w fun e w' => e = .returned (.bool true) ∧ Below w.heap.size w w' := by
  go_enter Tryd.func7, Tryd.ntmps7
  go_wp2_with fail
  go_ret
  exact ⟨rfl, Below.refl _ _⟩

/-- The law, where both functions give one text and one bool. -/
theorem law_of (o : ByteArray) (ok : Bool) (s : ByteArray) (w : World) (ht : Hid (Tab w)) (h : s.size ≤ 1048576)
    (hspec : Hid (Calls Tryd.prog 20 #[.string s] w fun e w' => e = .returned (.tuple #[.string o, .bool ok]) ∧ Below w.heap.size w w'))
    (himpl : Hid (∀ w, Hid (Tab w) → Calls Tryd.prog 18 #[.string s] w fun e w' => e = .returned (.tuple #[.string o, .bool ok]) ∧ Below w.heap.size w w')) :
    Calls Tryd.prog 7 #[.string s] w fun e w' => e = .returned (.bool true) ∧ Below w.heap.size w w' := by
  go_enter Tryd.func7, Tryd.ntmps7
  go_wp2_with (go_at_call 20; refine hspec.out.mono ?_; rintro e w1 ⟨rfl, hb1⟩; refine Hid.out ?_)
  refine Lib.hid ?_
  have HB := Lib.hid hb1
  have ht' : Hid (Tab w1) := Tab.below ht HB.out
  clear hb1
  go_wp2_with (go_at_call 18; refine (himpl.out _ ht').mono ?_; rintro e w' ⟨rfl, hb⟩)
  go_ret
  exact ⟨rfl, HB.out.trans (hb.mono HB.out.size)⟩

theorem law (s : ByteArray) (w : World) (w0 : s.size ≤ maxLen) (ht : Hid (Tab w)) :
    Calls Tryd.prog 7 #[.string s] w fun e w' => e = .returned (.bool true) ∧ Below w.heap.size w w' := by
  unfold maxLen at w0
  by_cases hb : 1048576 < s.size
  · exact law_big s w hb w0
  have hm : s.size ≤ 1048576 := by omega
  by_cases hf : good s = true
  · exact law_of _ _ s w ht hm (Lib.hid (spec_yes s w hf)) (Lib.hid fun w ht => impl_yes s w ht hf)
  · have hf' : good s = false := by simpa using hf
    exact law_of _ _ s w ht hm (Lib.hid (spec_no s w hm hf')) (Lib.hid fun w ht => impl_no s w ht hm hf')
end Go.Proofs.YtocjedheimhfoaaDoor.verify
