/- The walks of AppendChecksum, of the model's and of the project's, and of the law over both; the table of powers of ten must hold what its initialiser lays. -/
import Derived.Test.YtocjedheimhfoaaDoorRows
import Derived.Test.YtocjedheimhfoaaDoorSum
import Derived.Test.YtocjedheimhfoaaDoorStands
import Derived.Test.YtocjedheimhfoaaDoorFormat
import Derived.Test.YtocjedheimhfoaaDoorContains
namespace Go.Proofs.YtocjedheimhfoaaDoor.seals
open Go.RowKit num pjoin format
set_option linter.unusedVariables false

/-- A text, the mark and its checksum. -/
def sealed (s : ByteArray) : ByteArray := s ++ ⟨#[35]⟩ ++ txt (Lib.itoa (psum.sum s.data.toList))
def fits (s : ByteArray) : Bool := decide (s.size ≤ 4000) && !has s.data.toList 35 && decide ((sealed s).size ≤ 4000)

theorem sum_text (s : ByteArray) : ∃ t : ByteArray, txt (Lib.itoa (psum.sum s.data.toList)) = t ∧ t.size ≤ 21 ∧ sealed s = s ++ ⟨#[35]⟩ ++ t ∧ (sealed s).size = s.size + 1 + t.size := by
  refine ⟨_, rfl, ?_, rfl, ?_⟩
  · rw [size_txt]
    have := psum.sum_bd s.data.toList
    exact Lib.itoa_length_le _ (by omega) (by omega)
  · unfold sealed
    rw [ByteArray.size_append, ByteArray.size_append]
    rfl

set_option maxHeartbeats 400000 in
theorem l1Seal_any (s : ByteArray) (w : World) (hs : s.size ≤ 140737488355328) :
    Calls Tryd.prog 34 #[.string s] w fun e w' => e = .returned (.string (sealed s)) ∧ ∃ k, w' = w.drewN k := by
  obtain ⟨t, ht, hts, he, _⟩ := sum_text s
  have hb := psum.sum_bd s.data.toList
  rw [he]
  have IT := Lib.hid (show ∀ w, Calls Tryd.prog 25 #[.int .i64 (psum.sum s.data.toList)] w fun e w' => e = .returned (.string t) ∧ ∃ k, w' = w.drewN k from fun w => by rw [← ht]; exact num.any _ w (by omega) (by omega))
  clear ht he
  go_enter Tryd.func34, Tryd.ntmps34
  go_wp2_with (first
    | (go_at_call 40; refine (sums.l1Sum_any _ _ hs).mono ?_; rintro e w' ⟨rfl, rfl⟩)
    | (go_at_call 25; refine (IT.out _).mono ?_; rintro e w' ⟨rfl, k, rfl⟩))
  go_ret
  exact ⟨rfl, _, rfl⟩

theorem spec_yes (s : ByteArray) (w : World) (hs1 : s.size ≤ 4000) (hs2 : has s.data.toList 35 = false) (hs3 : (sealed s).size ≤ 4000) :
    Calls Tryd.prog 17 #[.string s] w fun e w' => e = .returned (.tuple #[.string (sealed s), .bool true]) ∧ ∃ k, w' = w.drewN k := by
  have H2 := Lib.hid hs2
  clear hs2
  go_enter Tryd.func17, Tryd.ntmps17
  go_wp2_with (first
    | (go_at_call 33; refine (stands.stands_no s 35 _ (by omega) H2.out).mono ?_; rintro e w' ⟨rfl, rfl⟩)
    | (go_at_call 34; refine (l1Seal_any _ _ (by omega)).mono ?_; rintro e w' ⟨rfl, k, rfl⟩))
  go_ret2
  exact ⟨rfl, _, rfl⟩

theorem spec_no (s : ByteArray) (w : World) (hm : s.size ≤ 1048576) (hf : fits s = false) :
    Calls Tryd.prog 17 #[.string s] w fun e w' => e = .returned (.tuple #[.string ByteArray.empty, .bool false]) ∧ ∃ k, w' = w.drewN k := by
  by_cases h1 : 4000 < s.size
  · clear hf
    go_enter Tryd.func17, Tryd.ntmps17
    go_wp2_with fail
    go_ret2
    exact ⟨rfl, 0, rfl⟩
  have h1' : s.size ≤ 4000 := by omega
  by_cases h2 : has s.data.toList 35 = true
  · have H2 := Lib.hid h2
    clear h2 hf
    go_enter Tryd.func17, Tryd.ntmps17
    go_wp2_with (go_at_call 33; refine (stands.stands_yes s 35 _ (by omega) H2.out).mono ?_; rintro e w' ⟨rfl, rfl⟩)
    go_ret2
    exact ⟨rfl, 0, rfl⟩
  have H2 := Lib.hid (show has s.data.toList 35 = false by simpa using h2)
  have h3 : 4000 < (sealed s).size := by
    have e := H2.out
    simp [fits, h1', e] at hf
    omega
  clear h2 hf
  go_enter Tryd.func17, Tryd.ntmps17
  go_wp2_with (first
    | (go_at_call 33; refine (stands.stands_no s 35 _ (by omega) H2.out).mono ?_; rintro e w' ⟨rfl, rfl⟩)
    | (go_at_call 34; refine (l1Seal_any _ _ (by omega)).mono ?_; rintro e w' ⟨rfl, k, rfl⟩))
  go_ret2
  exact ⟨rfl, _, rfl⟩

set_option maxHeartbeats 400000 in
theorem impl_yes (s : ByteArray) (w : World) (ht : Hid (Tab w)) (hs1 : s.size ≤ 4000) (hs2 : has s.data.toList 35 = false) (hs3 : (sealed s).size ≤ 4000) :
    Calls Tryd.prog 16 #[.string s] w fun e w' => e = .returned (.tuple #[.string (sealed s), .bool true]) ∧ Below w.heap.size w w' := by
  have H2 := Lib.hid hs2
  clear hs2
  obtain ⟨t, hte, hts, he, hsz⟩ := sum_text s
  have hb := psum.sum_bd s.data.toList
  have hle : s.size + 1 + t.size ≤ 4000 := by omega
  rw [he]
  have IT := Lib.hid (show Calls Tryd.prog 23 #[.int .i64 (psum.sum s.data.toList)] w fun e w' => e = .returned (.string t) ∧ Below w.heap.size w w' by rw [← hte]; exact itoa_any _ w (by omega) (by omega) ht)
  clear hte he hsz hs3
  go_enter Tryd.func16, Tryd.ntmps16
  go_wp2_with (first
    | (go_at_call 31; refine (sums.implSum_yes _ _ hs1).mono ?_; rintro e w' ⟨rfl, rfl⟩)
    | (go_at_call 32; refine (contains.contains_no s 35 _ H2.out).mono ?_; rintro e w' ⟨rfl, rfl⟩)
    | (go_at_call 23; refine IT.out.mono ?_; rintro e w' ⟨rfl, hbel⟩))
  go_ret2
  exact ⟨rfl, hbel⟩

set_option maxHeartbeats 400000 in
theorem impl_no (s : ByteArray) (w : World) (ht : Hid (Tab w)) (hm : s.size ≤ 1048576) (hf : fits s = false) :
    Calls Tryd.prog 16 #[.string s] w fun e w' => e = .returned (.tuple #[.string ByteArray.empty, .bool false]) ∧ Below w.heap.size w w' := by
  by_cases h1 : 4000 < s.size
  · clear hf
    go_enter Tryd.func16, Tryd.ntmps16
    go_wp2_with (go_at_call 31; refine (sums.implSum_no _ _ h1).mono ?_; rintro e w' ⟨rfl, rfl⟩)
    go_ret2
    exact ⟨rfl, Below.refl _ _⟩
  have h1' : s.size ≤ 4000 := by omega
  by_cases h2 : has s.data.toList 35 = true
  · have H2 := Lib.hid h2
    clear h2 hf
    go_enter Tryd.func16, Tryd.ntmps16
    go_wp2_with (first
      | (go_at_call 31; refine (sums.implSum_yes _ _ h1').mono ?_; rintro e w' ⟨rfl, rfl⟩)
      | (go_at_call 32; refine (contains.contains_yes s 35 _ H2.out).mono ?_; rintro e w' ⟨rfl, rfl⟩))
    go_ret2
    exact ⟨rfl, Below.refl _ _⟩
  have H2 := Lib.hid (show has s.data.toList 35 = false by simpa using h2)
  have h3 : 4000 < (sealed s).size := by
    have e := H2.out
    simp [fits, h1', e] at hf
    omega
  clear h2 hf
  obtain ⟨t, hte, hts, he, hsz⟩ := sum_text s
  have hb := psum.sum_bd s.data.toList
  have hle : 4000 < s.size + 1 + t.size := by omega
  have IT := Lib.hid (show Calls Tryd.prog 23 #[.int .i64 (psum.sum s.data.toList)] w fun e w' => e = .returned (.string t) ∧ Below w.heap.size w w' by rw [← hte]; exact itoa_any _ w (by omega) (by omega) ht)
  clear hte he hsz h3
  go_enter Tryd.func16, Tryd.ntmps16
  go_wp2_with (first
    | (go_at_call 31; refine (sums.implSum_yes _ _ h1').mono ?_; rintro e w' ⟨rfl, rfl⟩)
    | (go_at_call 32; refine (contains.contains_no s 35 _ H2.out).mono ?_; rintro e w' ⟨rfl, rfl⟩)
    | (go_at_call 23; refine IT.out.mono ?_; rintro e w' ⟨rfl, hbel⟩))
  go_ret2
  exact ⟨rfl, hbel⟩
end Go.Proofs.YtocjedheimhfoaaDoor.seals
