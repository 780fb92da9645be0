/- The walks of FormatInt, of the model's and of the project's, and of the law over both: the table of powers of ten must hold what its initialiser lays. -/
import Derived.Test.YtocjedheimhfoaaDoorRows
import Derived.Test.YtocjedheimhfoaaDoorNum
import Derived.Test.YtocjedheimhfoaaDoorShelf
import Derived.Lib.AppendIntMem
import Derived.WalkSmall
namespace Go.Proofs.YtocjedheimhfoaaDoor.format
open Go.RowKit num
set_option linter.unusedVariables false

/-- The table of the library's that decimal texts are made from. -/
abbrev Tab (w : World) : Prop := Lib.TabIs Tryd.prog w "internal/strconv.uint64pow10" .u64 Lib.pow10Tab
theorem gTab : Tryd.prog.globalNamed "internal/strconv.uint64pow10" = some 1 := by kernel_rfl
theorem gTabType : (Tryd.prog.globals[1]?).map (·.type) = some 64 := by kernel_rfl
theorem cellsTab : Tryd.prog.cellsOf 64 = 20 := by kernel_rfl
theorem cellsU64 : Tryd.prog.cellsOf 35 = 1 := by kernel_rfl
theorem tabData : (Rows.laid_internal_strconv_uint64pow10 : DataW Unit) = Lib.tabData .u64 Lib.pow10Tab := by kernel_rfl

theorem Tab.below {w w' : World} (h : Hid (Tab w)) (hb : Below w.heap.size w w') : Hid (Tab w') := by
  have hc := Lib.TabIs.cell h.out gTab 0 (by rw [Lib.pow10Tab_length]; omega)
  exact var?_below hb gTab (World.block_lt_of_cell? w _ hc) h.out

theorem itoa_any (z : Int) (w : World) (h0 : -9223372036854775807 ≤ z) (h1 : z ≤ 9223372036854775807) (ht : Hid (Tab w)) :
    Calls Tryd.prog 23 #[.int .i64 z] w fun e w' => e = .returned (.string (txt (Lib.itoa z))) ∧ Below w.heap.size w w' := by
  refine (Tryd.strconv_Itoa z (by omega) h1 w ht.out).mono fun e w' ⟨he, k, os, hw⟩ => ⟨he, ?_⟩
  subst hw
  exact Lib.below_grow _ _ (Nat.le_refl _) _ _

theorem implFormat_yes (z : Int) (w : World) (h0 : -999999 ≤ z) (h1 : z ≤ 999999) (ht : Hid (Tab w)) :
    Calls Tryd.prog 10 #[.int .i64 z] w fun e w' => e = .returned (.tuple #[.string (txt (Lib.itoa z)), .bool true]) ∧ Below w.heap.size w w' := by
  go_enter Tryd.func10, Tryd.ntmps10
  go_wp2_with (go_at_call 23; refine (itoa_any _ _ (by omega) (by omega) ht).mono ?_; rintro e w' ⟨rfl, hb⟩)
  go_ret2
  exact ⟨rfl, hb⟩

theorem implFormat_no (z : Int) (w : World) (h : z < -999999 ∨ 999999 < z) :
    Calls Tryd.prog 10 #[.int .i64 z] w fun e w' => e = .returned (.tuple #[.string ByteArray.empty, .bool false]) ∧ w = w' := by
  rcases h with h | h
  · go_enter Tryd.func10, Tryd.ntmps10
    go_wp2_with fail
    go_ret2
    exact ⟨rfl, rfl⟩
  · have h' : ¬ z < -999999 := by omega
    go_enter Tryd.func10, Tryd.ntmps10
    go_wp2_with fail
    go_ret2
    exact ⟨rfl, rfl⟩

theorem in_yes (x a b : Int) (w : World) (h1 : a ≤ x) (h2 : x ≤ b) :
    Calls Tryd.prog 24 #[.int .i64 x, .int .i64 a, .int .i64 b] w fun e w' => e = .returned (.bool true) ∧ w = w' := by
  go_enter Tryd.func24, Tryd.ntmps24
  go_wp2
  go_ret
  exact ⟨rfl, rfl⟩

theorem in_no (x a b : Int) (w : World) (h : x < a ∨ b < x) :
    Calls Tryd.prog 24 #[.int .i64 x, .int .i64 a, .int .i64 b] w fun e w' => e = .returned (.bool false) ∧ w = w' := by
  by_cases h' : x < a
  · clear h
    go_enter Tryd.func24, Tryd.ntmps24
    go_wp2
    go_ret
    exact ⟨rfl, rfl⟩
  · have h2 : b < x := by omega
    have h3 : a ≤ x := by omega
    have h4 : decide (x ≤ b) = false := by simp; omega
    clear h
    go_enter Tryd.func24, Tryd.ntmps24
    go_wp2
    go_ret
    exact ⟨rfl, rfl⟩

theorem specFormat_yes (z : Int) (w : World) (h0 : -999999 ≤ z) (h1 : z ≤ 999999) :
    Calls Tryd.prog 11 #[.int .i64 z] w fun e w' => e = .returned (.tuple #[.string (txt (Lib.itoa z)), .bool true]) ∧ ∃ k, w' = w.drewN k := by
  go_enter Tryd.func11, Tryd.ntmps11
  go_wp2_with (first
    | (go_at_call 24; refine (in_yes _ _ _ _ h0 h1).mono ?_; rintro e w' ⟨rfl, rfl⟩)
    | (go_at_call 25; refine (num.any _ _ (by omega) (by omega)).mono ?_; rintro e w' ⟨rfl, k, rfl⟩))
  go_ret2
  exact ⟨rfl, _, rfl⟩

theorem specFormat_no (z : Int) (w : World) (h : z < -999999 ∨ 999999 < z) :
    Calls Tryd.prog 11 #[.int .i64 z] w fun e w' => e = .returned (.tuple #[.string ByteArray.empty, .bool false]) ∧ w = w' := by
  have H := Lib.hid h
  clear h
  go_enter Tryd.func11, Tryd.ntmps11
  go_wp2_with (go_at_call 24; refine (in_no _ _ _ _ H.out).mono ?_; rintro e w' ⟨rfl, rfl⟩)
  go_ret2
  exact ⟨rfl, rfl⟩

theorem below_of_eq {w w' : World} (h : w = w') : Below w.heap.size w w' := by subst h; exact Below.refl _ _

/-- The law FnExactFormatInt. -/
theorem law (z : Int) (w : World) (w0 : (Lit.int .i64 z).wf = true) (ht : Hid (Tab w)) :
    Calls Tryd.prog 4 #[.int .i64 z] w fun e w' => e = .returned (.bool true) ∧ Below w.heap.size w w' := by
  by_cases h : z < -999999 ∨ 999999 < z
  · have H := Lib.hid h
    clear h
    go_enter Tryd.func4, Tryd.ntmps4
    go_wp2_with (first
      | (go_at_call 11; refine (specFormat_no _ _ H.out).mono ?_; rintro e w' ⟨rfl, rfl⟩)
      | (go_at_call 10; refine (implFormat_no _ _ H.out).mono ?_; rintro e w' ⟨rfl, rfl⟩))
    go_ret
    exact ⟨rfl, Below.refl _ _⟩
  · have h0 : -999999 ≤ z := by omega
    have h1 : z ≤ 999999 := by omega
    clear h
    go_enter Tryd.func4, Tryd.ntmps4
    go_wp2_with (go_at_call 11; refine (specFormat_yes _ _ h0 h1).mono ?_; rintro e w' ⟨rfl, k, rfl⟩; refine Hid.out ?_)
    refine Lib.hid ?_
    have HB := Lib.hid (below_drewN (Below.refl w.heap.size w) k)
    have ht' : Hid (Tab (w.drewN k)) := Tab.below ht HB.out
    go_wp2_with (go_at_call 10; refine (implFormat_yes _ _ h0 h1 ht').mono ?_; rintro e w' ⟨rfl, hb⟩)
    go_ret
    exact ⟨rfl, HB.out.trans (hb.mono HB.out.size)⟩
end Go.Proofs.YtocjedheimhfoaaDoor.format
