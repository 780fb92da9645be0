/- The walk of the law FnExactAppendChecksum: it returns true. -/
import Derived.Test.YtocjedheimhfoaaDoorSeal
namespace Go.Proofs.YtocjedheimhfoaaDoor.seals
open Go.RowKit num pjoin format
set_option linter.unusedVariables false

theorem law_big (s : ByteArray) (w : World) (h : 1048576 < s.size) (hm : s.size ≤ 9223372036854775807) :
    Calls Tryd.prog 6 #[.string s] w fun e w' => e = .returned (.bool true) ∧ Below w.heap.size w w' := by
  go_enter Tryd.func6, Tryd.ntmps6
  go_wp2_with fail
  go_ret
  exact ⟨rfl, Below.refl _ _⟩

/-- The law, where both functions give one text and one bool. -/
theorem law_of (o : ByteArray) (ok : Bool) (s : ByteArray) (w : World) (ht : Hid (Tab w)) (h : s.size ≤ 1048576)
    (hspec : Hid (Calls Tryd.prog 17 #[.string s] w fun e w' => e = .returned (.tuple #[.string o, .bool ok]) ∧ ∃ k, w' = w.drewN k))
    (himpl : Hid (∀ w, Hid (Tab w) → Calls Tryd.prog 16 #[.string s] w fun e w' => e = .returned (.tuple #[.string o, .bool ok]) ∧ Below w.heap.size w w')) :
    Calls Tryd.prog 6 #[.string s] w fun e w' => e = .returned (.bool true) ∧ Below w.heap.size w w' := by
  go_enter Tryd.func6, Tryd.ntmps6
  go_wp2_with (go_at_call 17; refine hspec.out.mono ?_; rintro e w' ⟨rfl, k, rfl⟩; refine Hid.out ?_)
  refine Lib.hid ?_
  have HB := Lib.hid (below_drewN (Below.refl w.heap.size w) k)
  have ht' : Hid (Tab (w.drewN k)) := Tab.below ht HB.out
  go_wp2_with (go_at_call 16; refine (himpl.out _ ht').mono ?_; rintro e w' ⟨rfl, hb⟩)
  go_ret
  exact ⟨rfl, HB.out.trans (hb.mono HB.out.size)⟩

theorem law (s : ByteArray) (w : World) (w0 : s.size ≤ maxLen) (ht : Hid (Tab w)) :
    Calls Tryd.prog 6 #[.string s] w fun e w' => e = .returned (.bool true) ∧ Below w.heap.size w w' := by
  unfold maxLen at w0
  by_cases hb : 1048576 < s.size
  · exact law_big s w hb w0
  have hm : s.size ≤ 1048576 := by omega
  by_cases hf : fits s = true
  · have hf' : s.size ≤ 4000 ∧ has s.data.toList 35 = false ∧ (sealed s).size ≤ 4000 := by
      simp [fits] at hf
      exact ⟨hf.1.1, hf.1.2, hf.2⟩
    exact law_of _ _ s w ht hm (Lib.hid (spec_yes s w hf'.1 hf'.2.1 hf'.2.2)) (Lib.hid fun w ht => impl_yes s w ht hf'.1 hf'.2.1 hf'.2.2)
  · have hf' : fits s = false := by simpa using hf
    exact law_of _ _ s w ht hm (Lib.hid (spec_no s w hm hf')) (Lib.hid fun w ht => impl_no s w ht hm hf')
end Go.Proofs.YtocjedheimhfoaaDoor.seals
