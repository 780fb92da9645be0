/- strings.Contains at a text of one byte, out of the library's contract. -/
import Derived.Test.YtocjedheimhfoaaDoorRows
import Derived.Test.YtocjedheimhfoaaDoorPlainJoin
import Derived.Test.YtocjedheimhfoaaDoorShelf
import Derived.Lib.IndexAny
namespace Go.Proofs.YtocjedheimhfoaaDoor.contains
open Go.RowKit pjoin
set_option linter.unusedVariables false

theorem contains_yes (s : ByteArray) (b : UInt8) (w : World) (h : has s.data.toList b = true) :
    Calls Tryd.prog 32 #[.string s, .string ⟨#[b]⟩] w fun e w' => e = .returned (.bool true) ∧ w = w' := by
  refine (Tryd.strings_Contains_one s b w).mono fun e w' ⟨he, hw⟩ => ⟨?_, hw.symm⟩
  rw [he, ← Lib.contains_iff_indexByte]
  unfold has at h
  rw [h]

theorem contains_no (s : ByteArray) (b : UInt8) (w : World) (h : has s.data.toList b = false) :
    Calls Tryd.prog 32 #[.string s, .string ⟨#[b]⟩] w fun e w' => e = .returned (.bool false) ∧ w = w' := by
  refine (Tryd.strings_Contains_one s b w).mono fun e w' ⟨he, hw⟩ => ⟨?_, hw.symm⟩
  rw [he, ← Lib.contains_iff_indexByte]
  unfold has at h
  rw [h]

end Go.Proofs.YtocjedheimhfoaaDoor.contains
