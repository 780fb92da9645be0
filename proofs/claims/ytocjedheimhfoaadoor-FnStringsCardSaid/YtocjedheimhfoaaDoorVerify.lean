/- The walks of VerifyChecksum, of the model's and of the project's; the table of powers of ten must hold what its initialiser lays. -/
import Derived.Test.YtocjedheimhfoaaDoorSeal
import Derived.Test.YtocjedheimhfoaaDoorSplitSpec
import Derived.Test.YtocjedheimhfoaaDoorCut
namespace Go.Proofs.YtocjedheimhfoaaDoor.verify
open Go.RowKit num pjoin format psplit pcut seals
set_option linter.unusedVariables false

/-- Is the text the sealed form of what stands before its first mark? -/
def good (s : ByteArray) : Bool := decide (s.size ≤ 4000) && decide (sealed (head s 35) = s)

theorem good_fits (s : ByteArray) (h : good s = true) : s.size ≤ 4000 ∧ sealed (head s 35) = s ∧ (head s 35).size ≤ 4000 ∧ has (head s 35).data.toList 35 = false ∧ (sealed (head s 35)).size ≤ 4000 := by
  simp [good] at h
  have := head_size s 35
  exact ⟨h.1, h.2, by omega, head_clean s 35, by rw [h.2]; exact h.1⟩

theorem str_yes {a b : ByteArray} (h : a = b) : (a.toList == b.toList) = true := by subst h; simp
theorem str_no {a b : ByteArray} (h : a ≠ b) : (a.toList == b.toList) = false := by
  rw [beq_eq_false_iff_ne]
  intro e
  rw [ByteArray.toList_eq, ByteArray.toList_eq] at e
  exact h (ByteArray.ext (Array.ext' e))

set_option maxHeartbeats 400000 in
theorem spec_yes (s : ByteArray) (w : World) (h : good s = true) :
    Calls Tryd.prog 20 #[.string s] w fun e w' => e = .returned (.tuple #[.string (head s 35), .bool true]) ∧ Below w.heap.size w w' := by
  obtain ⟨h1, h2, h3, h4, h5⟩ := good_fits s h
  have hne := str_yes h2
  have hp := pieces_pos s 35
  clear h2 h h4 h5
  go_enter Tryd.func20, Tryd.ntmps20
  go_wp2_with (go_at_call 36; refine (splitspec.l1Split_own s 35 _ (by omega)).mono ?_; rintro e w1 ⟨g, cap, rfl, hown, hb⟩; refine Hid.out ?_)
  refine Lib.hid ?_
  have hc : w1.cell? ⟨g, 0, none⟩ = some (.string (head s 35)) := by
    rw [hown.cellAt 0 (by omega), List.getElem?_map, pieces_head]; rfl
  have HB := Lib.hid hb
  clear hown hb
  go_wp2_with (go_at_call 34; refine (l1Seal_any _ _ (by omega)).mono ?_; rintro e w' ⟨rfl, k, rfl⟩)
  go_ret2
  exact ⟨rfl, below_drewN HB.out _⟩

set_option maxHeartbeats 400000 in
theorem spec_no (s : ByteArray) (w : World) (hm : s.size ≤ 1048576) (h : good s = false) :
    Calls Tryd.prog 20 #[.string s] w fun e w' => e = .returned (.tuple #[.string ByteArray.empty, .bool false]) ∧ Below w.heap.size w w' := by
  by_cases h1 : 4000 < s.size
  · clear h
    go_enter Tryd.func20, Tryd.ntmps20
    go_wp2_with fail
    go_ret2
    exact ⟨rfl, Below.refl _ _⟩
  have h1' : s.size ≤ 4000 := by omega
  have hne := str_no (show sealed (head s 35) ≠ s by simpa [good, h1'] using h)
  have hp := pieces_pos s 35
  have hhs := head_size s 35
  clear h
  go_enter Tryd.func20, Tryd.ntmps20
  go_wp2_with (go_at_call 36; refine (splitspec.l1Split_own s 35 _ (by omega)).mono ?_; rintro e w1 ⟨g, cap, rfl, hown, hb⟩; refine Hid.out ?_)
  refine Lib.hid ?_
  have hc : w1.cell? ⟨g, 0, none⟩ = some (.string (head s 35)) := by
    rw [hown.cellAt 0 (by omega), List.getElem?_map, pieces_head]; rfl
  have HB := Lib.hid hb
  clear hown hb
  go_wp2_with (go_at_call 34; refine (l1Seal_any _ _ (by omega)).mono ?_; rintro e w' ⟨rfl, k, rfl⟩)
  go_ret2
  exact ⟨rfl, below_drewN HB.out _⟩

set_option maxHeartbeats 400000 in
theorem impl_yes (s : ByteArray) (w : World) (ht : Hid (Tab w)) (h : good s = true) :
    Calls Tryd.prog 18 #[.string s] w fun e w' => e = .returned (.tuple #[.string (head s 35), .bool true]) ∧ Below w.heap.size w w' := by
  obtain ⟨h1, h2, h3, h4, h5⟩ := good_fits s h
  have hne := str_yes h2
  have H4 := Lib.hid h4
  have H5 := Lib.hid h5
  clear h2 h h4 h5
  go_enter Tryd.func18, Tryd.ntmps18
  go_wp2_with (go_at_call 35; refine (cut.cut_any s 35 _ (by omega)).mono ?_; rintro e w1 ⟨a, f, rfl, k, rfl⟩; refine Hid.out ?_)
  refine Lib.hid ?_
  have HB := Lib.hid (below_drewN (Below.refl w.heap.size w) k)
  have ht' : Hid (Tab (w.drewN k)) := Tab.below ht HB.out
  go_wp2_with (go_at_call 16; refine (seals.impl_yes _ _ ht' h3 H4.out H5.out).mono ?_; rintro e w' ⟨rfl, hb⟩)
  go_ret2
  exact ⟨rfl, HB.out.trans (hb.mono HB.out.size)⟩

set_option maxHeartbeats 400000 in
theorem impl_no (s : ByteArray) (w : World) (ht : Hid (Tab w)) (hm : s.size ≤ 1048576) (h : good s = false) :
    Calls Tryd.prog 18 #[.string s] w fun e w' => e = .returned (.tuple #[.string ByteArray.empty, .bool false]) ∧ Below w.heap.size w w' := by
  have hhs := head_size s 35
  have HB0 := Lib.hid (fun k => below_drewN (Below.refl w.heap.size w) k)
  by_cases hf : fits (head s 35) = true
  · have hf' : (head s 35).size ≤ 4000 ∧ has (head s 35).data.toList 35 = false ∧ (sealed (head s 35)).size ≤ 4000 := by
      simp [fits] at hf
      exact ⟨hf.1.1, hf.1.2, hf.2⟩
    have hne := str_no (show sealed (head s 35) ≠ s by
      intro e
      have h5 := hf'.2.2
      rw [e] at h5
      simp [good, h5, e] at h)
    have h3 := hf'.1
    have H4 := Lib.hid hf'.2.1
    have H5 := Lib.hid hf'.2.2
    clear hf hf' h
    go_enter Tryd.func18, Tryd.ntmps18
    go_wp2_with (go_at_call 35; refine (cut.cut_any s 35 _ (by omega)).mono ?_; rintro e w1 ⟨a, f, rfl, k, rfl⟩; refine Hid.out ?_)
    refine Lib.hid ?_
    have HB := Lib.hid (HB0.out k)
    have ht' : Hid (Tab (w.drewN k)) := Tab.below ht HB.out
    go_wp2_with (go_at_call 16; refine (seals.impl_yes _ _ ht' h3 H4.out H5.out).mono ?_; rintro e w' ⟨rfl, hb⟩)
    go_ret2
    exact ⟨rfl, HB.out.trans (hb.mono HB.out.size)⟩
  · have HF := Lib.hid (show fits (head s 35) = false by simpa using hf)
    clear hf h
    go_enter Tryd.func18, Tryd.ntmps18
    go_wp2_with (go_at_call 35; refine (cut.cut_any s 35 _ (by omega)).mono ?_; rintro e w1 ⟨a, f, rfl, k, rfl⟩; refine Hid.out ?_)
    refine Lib.hid ?_
    have HB := Lib.hid (HB0.out k)
    have ht' : Hid (Tab (w.drewN k)) := Tab.below ht HB.out
    go_wp2_with (go_at_call 16; refine (seals.impl_no _ _ ht' (by omega) HF.out).mono ?_; rintro e w' ⟨rfl, hb⟩)
    go_ret2
    exact ⟨rfl, HB.out.trans (hb.mono HB.out.size)⟩
end Go.Proofs.YtocjedheimhfoaaDoor.verify
