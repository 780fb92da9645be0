/- The walks of ParseInt of the project, of the model's reader, and of the law over both. -/
import Derived.Test.YtocjedheimhfoaaDoorParse
import Derived.Deep.QuietTactic
import Derived.BigQuiet
namespace Go.Proofs.YtocjedheimhfoaaDoor.parse
open Go.RowKit num format pparse
set_option linter.unusedVariables false

theorem str_yes {a b : ByteArray} (h : a = b) : (a.toList == b.toList) = true := by subst h; simp
theorem str_no {a b : ByteArray} (h : a ≠ b) : (a.toList == b.toList) = false := by
  rw [beq_eq_false_iff_ne]
  intro e
  rw [ByteArray.toList_eq, ByteArray.toList_eq] at e
  exact h (ByteArray.ext (Array.ext' e))

theorem txt_of_P {s : ByteArray} {n : Int} (h : P s n) : txt (Lib.itoa n) = s := by
  apply ByteArray.ext
  apply Array.ext'
  rw [h.2.2]
  simp [txt]

theorem P_of_txt {s : ByteArray} {n : Int} (h0 : -999999 ≤ n) (h1 : n ≤ 999999) (h : txt (Lib.itoa n) = s) : P s n := ⟨h0, h1, by subst h; simp [txt]⟩

set_option maxHeartbeats 400000 in
theorem impl_yes (s : ByteArray) (n : Int) (w : World) (ht : Hid (Tab w)) (hs : s.size ≤ 1048576) (h : P s n) :
    Calls Tryd.prog 13 #[.string s] w fun e w' => e = .returned (.tuple #[.int .i64 n, .bool true]) ∧ Below w.heap.size w w' := by
  have h0 := h.1
  have h1 := h.2.1
  have hne := str_yes (txt_of_P h)
  have HP := Lib.hid h
  clear h
  go_enter Tryd.func13, Tryd.ntmps13
  go_wp2_with (go_at_call 28; refine (start_any _ _ hs).mono ?_; rintro e w' ⟨z, rfl, _, _, hz, rfl⟩; obtain rfl := hz n HP.out; clear hz; refine Hid.out ?_)
  refine Lib.hid ?_
  go_wp2_with (go_at_call 10; refine (implFormat_yes _ _ h0 h1 ht).mono ?_; rintro e w' ⟨rfl, hb⟩)
  go_ret2
  exact ⟨rfl, hb⟩

set_option maxHeartbeats 400000 in
theorem impl_no (s : ByteArray) (w : World) (ht : Hid (Tab w)) (hs : s.size ≤ 1048576) (h : Hid (∀ n, ¬ P s n)) :
    Calls Tryd.prog 13 #[.string s] w fun e w' => e = .returned (.tuple #[.int .i64 0, .bool false]) ∧ Below w.heap.size w w' := by
  go_enter Tryd.func13, Tryd.ntmps13
  go_wp2_with (go_at_call 28; refine (start_any _ _ hs).mono ?_; rintro e w' ⟨z, rfl, hz0, hz1, hz, rfl⟩; clear hz; refine Hid.out ?_)
  refine Lib.hid ?_
  by_cases hr : z < -999999 ∨ 999999 < z
  · have HR := Lib.hid hr
    clear hr
    go_wp2_with (go_at_call 10; refine (implFormat_no _ _ HR.out).mono ?_; rintro e w' ⟨rfl, rfl⟩)
    go_ret2
    exact ⟨rfl, Below.refl _ _⟩
  · have h0 : -999999 ≤ z := by omega
    have h1 : z ≤ 999999 := by omega
    have hne := str_no (show txt (Lib.itoa z) ≠ s from fun e => h.out z (P_of_txt h0 h1 e))
    clear hr
    go_wp2_with (go_at_call 10; refine (implFormat_yes _ _ h0 h1 ht).mono ?_; rintro e w' ⟨rfl, hb⟩)
    go_ret2
    exact ⟨rfl, hb⟩

/-- What the model's reader hands back. -/
def ReadPost (s : ByteArray) (w : World) (e : Ending) (w' : World) : Prop :=
  (∀ n, P s n → e = .returned (.tuple #[.int .i64 n, .bool true])) ∧ ((∀ n, ¬ P s n) → e = .returned (.tuple #[.int .i64 0, .bool false])) ∧ ∃ k, w' = w.drewN k

theorem read_fail {s : ByteArray} {w : World} (h : ∀ n, ¬ P s n) (k : Nat) : ReadPost s w (.returned (.tuple #[.int .i64 0, .bool false])) (w.drewN k) :=
  ⟨fun n hn => absurd hn (h n), fun _ => rfl, k, rfl⟩
theorem read_good {s : ByteArray} {w : World} {n : Int} (h : P s n) (k : Nat) : ReadPost s w (.returned (.tuple #[.int .i64 n, .bool true])) (w.drewN k) :=
  ⟨fun m hm => by rw [P_inj hm h], fun hn => absurd h (hn n), k, rfl⟩

set_option maxHeartbeats 1000000 in
set_option maxRecDepth 100000 in
theorem read_zero (s : ByteArray) (w : World) (h2 : s.size < 1) (hB : Hid (Body s s 1)) :
    Calls Tryd.prog 29 #[.string s] w (ReadPost s w) := by
  have HF := Lib.hid (body_len hB.out (by omega))
  go_enter Tryd.func29, Tryd.ntmps29
  go_wp2_with (go_at_call 24; refine (in_no _ _ _ _ (by omega)).mono ?_; rintro e w' ⟨rfl, rfl⟩)
  go_ret2
  exact read_fail HF.out 0

set_option maxHeartbeats 1000000 in
set_option maxRecDepth 100000 in
theorem read_one (s : ByteArray) (w : World) (h1 : 1 ≤ s.size) (h2 : s.size ≤ 1) (hB : Hid (Body s s 1)) :
    Calls Tryd.prog 29 #[.string s] w (ReadPost s w) := by
  go_enter Tryd.func29, Tryd.ntmps29
  go_wp2_with (first
    | (go_at_call 24; refine (in_yes _ _ _ _ (by omega) (by omega)).mono ?_; rintro e w' ⟨rfl, rfl⟩))
  go_loop [5, 6] (fun m i => ∃ (k : Nat), k ≤ s.size ∧ i = .int .i64 k ∧ m = .int .i64 (dv 0 (s.data.toList.take k)) ∧ (∀ c ∈ s.data.toList.take k, isDigit c)) (fun _ i => s.size - (intOf i).toNat)
  case atStart => exact ⟨0, Nat.zero_le _, rfl, rfl, fun c hc => by simp at hc⟩
  case round =>
    obtain ⟨k, hk, rfl, rfl, hd⟩ := hrel
    have hb := dv6 _ hd (by rw [List.length_take]; omega)
    have HD := Lib.hid hd
    clear hd
    by_cases hlt : k < s.size
    · have HN := Lib.hid (dv_next s k hlt)
      have HG := Lib.hid (digits_next s k hlt HD.out)
      have HF := Lib.hid (body_digit hB.out k hlt)
      obtain ⟨c, hc⟩ : ∃ c : Nat, s[k].toNat = c := ⟨_, rfl⟩
      have hc1 : (c : Int) < 256 := by have := s[k].toNat_lt; omega
      have HCD := Lib.hid (show isDigit s[k] ↔ (48 ≤ (c : Int) ∧ (c : Int) ≤ 57) by unfold isDigit; rw [hc])
      generalize hx : dv 0 (s.data.toList.take k) = x at *
      clear hx
      by_cases h1 : 48 ≤ (c : Int)
      · by_cases h2 : (c : Int) ≤ 57
        · have HK := Lib.hid (HG.out (HCD.out.2 ⟨h1, h2⟩))
          have HV := Lib.hid (show dv 0 (s.data.toList.take (k + 1)) = 10 * x + ((c : Int) - 48) by rw [HN.out, hc])
          go_wp2_with fail
          go_round
          case rel => exact ⟨k + 1, by omega, by go_num, by rw [HV.out], HK.out⟩
          case measure => simp [intOf]; omega
        · have h2' : 57 < (c : Int) := by omega
          have HX := Lib.hid (HF.out fun h => h2 (HCD.out.1 h).2)
          go_wp2_with fail
          go_ret2
          exact read_fail HX.out 0
      · have h1' : (c : Int) < 48 := by omega
        have HX := Lib.hid (HF.out fun h => h1 (HCD.out.1 h).1)
        go_wp2_with fail
        go_ret2
        exact read_fail HX.out 0
    · have hke : k = s.size := by omega
      subst hke
      have HE := Lib.hid (show dv 0 (s.data.toList.take s.size) = dv 0 s.data.toList by rw [List.take_of_length_le (by simp)])
      have HV := Lib.hid (body_value hB.out)
      obtain ⟨x, hx⟩ : ∃ x, dv 0 (s.data.toList.take s.size) = x := ⟨_, rfl⟩
      have hx0 : 0 ≤ x := by omega
      have hx1 : x ≤ 999999 := by omega
      have HX := Lib.hid (show dv 0 s.data.toList = x by rw [← HE.out]; exact hx)
      clear hb
      by_cases hq : txt (Lib.itoa (x)) = s
      · have HQ := Lib.hid (P_of_txt (s := s) (n := x) (by omega) (by omega) hq)
        have hne := str_yes hq
        clear hq
        go_wp2_with (go_at_call 25; refine (num.any _ _ (by omega) (by omega)).mono ?_; rintro e w' ⟨rfl, k, rfl⟩)
        go_ret2
        exact read_good HQ.out _
      · have HQ := Lib.hid (show ∀ n, ¬ P s n from fun n hn => hq (by
          have e := HV.out n hn
          rw [HX.out] at e
          rw [show (x) = n by omega]
          exact txt_of_P hn))
        have hne := str_no hq
        clear hq
        go_wp2_with (go_at_call 25; refine (num.any _ _ (by omega) (by omega)).mono ?_; rintro e w' ⟨rfl, k, rfl⟩)
        go_ret2
        exact read_fail HQ.out _

set_option maxHeartbeats 1000000 in
set_option maxRecDepth 100000 in
theorem read_plain (s : ByteArray) (w : World) (h1 : 1 < s.size) (h2 : s.size ≤ 6) (h45 : ((s[0].toNat : Int) == 45) = false) (hB : Hid (Body s s 1)) :
    Calls Tryd.prog 29 #[.string s] w (ReadPost s w) := by
  go_enter Tryd.func29, Tryd.ntmps29
  go_wp2_with (first
    | (go_at_call 24; refine (in_yes _ _ _ _ (by omega) (by omega)).mono ?_; rintro e w' ⟨rfl, rfl⟩))
  go_loop [5, 6] (fun m i => ∃ (k : Nat), k ≤ s.size ∧ i = .int .i64 k ∧ m = .int .i64 (dv 0 (s.data.toList.take k)) ∧ (∀ c ∈ s.data.toList.take k, isDigit c)) (fun _ i => s.size - (intOf i).toNat)
  case atStart => exact ⟨0, Nat.zero_le _, rfl, rfl, fun c hc => by simp at hc⟩
  case round =>
    obtain ⟨k, hk, rfl, rfl, hd⟩ := hrel
    have hb := dv6 _ hd (by rw [List.length_take]; omega)
    have HD := Lib.hid hd
    clear hd
    by_cases hlt : k < s.size
    · have HN := Lib.hid (dv_next s k hlt)
      have HG := Lib.hid (digits_next s k hlt HD.out)
      have HF := Lib.hid (body_digit hB.out k hlt)
      obtain ⟨c, hc⟩ : ∃ c : Nat, s[k].toNat = c := ⟨_, rfl⟩
      have hc1 : (c : Int) < 256 := by have := s[k].toNat_lt; omega
      have HCD := Lib.hid (show isDigit s[k] ↔ (48 ≤ (c : Int) ∧ (c : Int) ≤ 57) by unfold isDigit; rw [hc])
      generalize hx : dv 0 (s.data.toList.take k) = x at *
      clear hx
      by_cases h1 : 48 ≤ (c : Int)
      · by_cases h2 : (c : Int) ≤ 57
        · have HK := Lib.hid (HG.out (HCD.out.2 ⟨h1, h2⟩))
          have HV := Lib.hid (show dv 0 (s.data.toList.take (k + 1)) = 10 * x + ((c : Int) - 48) by rw [HN.out, hc])
          go_wp2_with fail
          go_round
          case rel => exact ⟨k + 1, by omega, by go_num, by rw [HV.out], HK.out⟩
          case measure => simp [intOf]; omega
        · have h2' : 57 < (c : Int) := by omega
          have HX := Lib.hid (HF.out fun h => h2 (HCD.out.1 h).2)
          go_wp2_with fail
          go_ret2
          exact read_fail HX.out 0
      · have h1' : (c : Int) < 48 := by omega
        have HX := Lib.hid (HF.out fun h => h1 (HCD.out.1 h).1)
        go_wp2_with fail
        go_ret2
        exact read_fail HX.out 0
    · have hke : k = s.size := by omega
      subst hke
      have HE := Lib.hid (show dv 0 (s.data.toList.take s.size) = dv 0 s.data.toList by rw [List.take_of_length_le (by simp)])
      have HV := Lib.hid (body_value hB.out)
      obtain ⟨x, hx⟩ : ∃ x, dv 0 (s.data.toList.take s.size) = x := ⟨_, rfl⟩
      have hx0 : 0 ≤ x := by omega
      have hx1 : x ≤ 999999 := by omega
      have HX := Lib.hid (show dv 0 s.data.toList = x by rw [← HE.out]; exact hx)
      clear hb
      by_cases hq : txt (Lib.itoa (x)) = s
      · have HQ := Lib.hid (P_of_txt (s := s) (n := x) (by omega) (by omega) hq)
        have hne := str_yes hq
        clear hq
        go_wp2_with (go_at_call 25; refine (num.any _ _ (by omega) (by omega)).mono ?_; rintro e w' ⟨rfl, k, rfl⟩)
        go_ret2
        exact read_good HQ.out _
      · have HQ := Lib.hid (show ∀ n, ¬ P s n from fun n hn => hq (by
          have e := HV.out n hn
          rw [HX.out] at e
          rw [show (x) = n by omega]
          exact txt_of_P hn))
        have hne := str_no hq
        clear hq
        go_wp2_with (go_at_call 25; refine (num.any _ _ (by omega) (by omega)).mono ?_; rintro e w' ⟨rfl, k, rfl⟩)
        go_ret2
        exact read_fail HQ.out _

set_option maxHeartbeats 1000000 in
set_option maxRecDepth 100000 in
theorem read_long (s : ByteArray) (w : World) (h1 : 6 < s.size) (h2 : s.size ≤ 1048576) (h45 : ((s[0].toNat : Int) == 45) = false) (hB : Hid (Body s s 1)) :
    Calls Tryd.prog 29 #[.string s] w (ReadPost s w) := by
  have HF := Lib.hid (body_len hB.out (by omega))
  go_enter Tryd.func29, Tryd.ntmps29
  go_wp2_with (go_at_call 24; refine (in_no _ _ _ _ (by omega)).mono ?_; rintro e w' ⟨rfl, rfl⟩)
  go_ret2
  exact read_fail HF.out 0

set_option maxHeartbeats 1000000 in
set_option maxRecDepth 100000 in
theorem read_sign (s t : ByteArray) (w : World) (h1 : 1 < s.size) (h2 : s.size ≤ 7) (h45 : ((s[0].toNat : Int) == 45) = true) (hte : s.extract 1 s.size = t) (hl0 : 1 ≤ t.size) (hl1 : t.size ≤ 6) (hl2 : t.size < s.size) (hB : Hid (Body s t (-1))) :
    Calls Tryd.prog 29 #[.string s] w (ReadPost s w) := by
  go_enter Tryd.func29, Tryd.ntmps29
  go_wp2_with (first
    | (go_at_call 24; refine (in_yes _ _ _ _ (by omega) (by omega)).mono ?_; rintro e w' ⟨rfl, rfl⟩))
  go_loop [5, 6] (fun m i => ∃ (k : Nat), k ≤ t.size ∧ i = .int .i64 k ∧ m = .int .i64 (dv 0 (t.data.toList.take k)) ∧ (∀ c ∈ t.data.toList.take k, isDigit c)) (fun _ i => t.size - (intOf i).toNat)
  case atStart => exact ⟨0, Nat.zero_le _, rfl, rfl, fun c hc => by simp at hc⟩
  case round =>
    obtain ⟨k, hk, rfl, rfl, hd⟩ := hrel
    have hb := dv6 _ hd (by rw [List.length_take]; omega)
    have HD := Lib.hid hd
    clear hd
    by_cases hlt : k < t.size
    · have HN := Lib.hid (dv_next t k hlt)
      have HG := Lib.hid (digits_next t k hlt HD.out)
      have HF := Lib.hid (body_digit hB.out k hlt)
      obtain ⟨c, hc⟩ : ∃ c : Nat, t[k].toNat = c := ⟨_, rfl⟩
      have hc1 : (c : Int) < 256 := by have := t[k].toNat_lt; omega
      have HCD := Lib.hid (show isDigit t[k] ↔ (48 ≤ (c : Int) ∧ (c : Int) ≤ 57) by unfold isDigit; rw [hc])
      generalize hx : dv 0 (t.data.toList.take k) = x at *
      clear hx
      by_cases h1 : 48 ≤ (c : Int)
      · by_cases h2 : (c : Int) ≤ 57
        · have HK := Lib.hid (HG.out (HCD.out.2 ⟨h1, h2⟩))
          have HV := Lib.hid (show dv 0 (t.data.toList.take (k + 1)) = 10 * x + ((c : Int) - 48) by rw [HN.out, hc])
          go_wp2_with fail
          go_round
          case rel => exact ⟨k + 1, by omega, by go_num, by rw [HV.out], HK.out⟩
          case measure => simp [intOf]; omega
        · have h2' : 57 < (c : Int) := by omega
          have HX := Lib.hid (HF.out fun h => h2 (HCD.out.1 h).2)
          go_wp2_with fail
          go_ret2
          exact read_fail HX.out 0
      · have h1' : (c : Int) < 48 := by omega
        have HX := Lib.hid (HF.out fun h => h1 (HCD.out.1 h).1)
        go_wp2_with fail
        go_ret2
        exact read_fail HX.out 0
    · have hke : k = t.size := by omega
      subst hke
      have HE := Lib.hid (show dv 0 (t.data.toList.take t.size) = dv 0 t.data.toList by rw [List.take_of_length_le (by simp)])
      have HV := Lib.hid (body_value hB.out)
      obtain ⟨x, hx⟩ : ∃ x, dv 0 (t.data.toList.take t.size) = x := ⟨_, rfl⟩
      have hx0 : 0 ≤ x := by omega
      have hx1 : x ≤ 999999 := by omega
      have HX := Lib.hid (show dv 0 t.data.toList = x by rw [← HE.out]; exact hx)
      clear hb
      by_cases hq : txt (Lib.itoa (-x)) = s
      · have HQ := Lib.hid (P_of_txt (s := s) (n := -x) (by omega) (by omega) hq)
        have hne := str_yes hq
        clear hq
        go_wp2_with (go_at_call 25; refine (num.any _ _ (by omega) (by omega)).mono ?_; rintro e w' ⟨rfl, k, rfl⟩)
        go_ret2
        exact read_good HQ.out _
      · have HQ := Lib.hid (show ∀ n, ¬ P s n from fun n hn => hq (by
          have e := HV.out n hn
          rw [HX.out] at e
          rw [show (-x) = n by omega]
          exact txt_of_P hn))
        have hne := str_no hq
        clear hq
        go_wp2_with (go_at_call 25; refine (num.any _ _ (by omega) (by omega)).mono ?_; rintro e w' ⟨rfl, k, rfl⟩)
        go_ret2
        exact read_fail HQ.out _

set_option maxHeartbeats 1000000 in
set_option maxRecDepth 100000 in
theorem read_signlong (s t : ByteArray) (w : World) (h1 : 1 < s.size) (h2 : s.size ≤ 1048576) (h45 : ((s[0].toNat : Int) == 45) = true) (hte : s.extract 1 s.size = t) (hl0 : 6 < t.size) (hl2 : t.size < s.size) (hB : Hid (Body s t (-1))) :
    Calls Tryd.prog 29 #[.string s] w (ReadPost s w) := by
  have HF := Lib.hid (body_len hB.out (by omega))
  go_enter Tryd.func29, Tryd.ntmps29
  go_wp2_with (go_at_call 24; refine (in_no _ _ _ _ (by omega)).mono ?_; rintro e w' ⟨rfl, rfl⟩)
  go_ret2
  exact read_fail HF.out 0

theorem read_any (s : ByteArray) (w : World) (hs : s.size ≤ 1048576) :
    Calls Tryd.prog 29 #[.string s] w (ReadPost s w) := by
  by_cases h1 : s.size ≤ 1
  · have hB := Lib.hid (body_pos s (.inl h1))
    by_cases h0 : s.size < 1
    · exact read_zero s w h0 hB
    · exact read_one s w (by omega) h1 hB
  have h1' : 1 < s.size := by omega
  have hget : s.data.toList[0]? = some s[0] := by rw [List.getElem?_eq_getElem (by simp; omega)]; rfl
  by_cases h45 : s[0] = 45
  · have hB := Lib.hid (body_neg s (by rw [hget, h45]))
    have hz : (s.extract 1 s.size).size = s.size - 1 := by rw [ByteArray.size_extract]; omega
    have hb : ((s[0].toNat : Int) == 45) = true := by rw [h45]; rfl
    by_cases h7 : s.size ≤ 7
    · exact read_sign s _ w h1' h7 hb rfl (by omega) (by omega) (by omega) hB
    · exact read_signlong s _ w h1' hs hb rfl (by omega) (by omega) hB
  · have hB := Lib.hid (body_pos s (.inr (by rw [hget]; intro e; exact h45 (Option.some.inj e))))
    have hb : ((s[0].toNat : Int) == 45) = false := by
      rw [beq_eq_false_iff_ne]
      intro e
      apply h45
      apply UInt8.toNat_inj.1
      show s[0].toNat = 45
      omega
    by_cases h6 : s.size ≤ 6
    · exact read_plain s w h1' h6 hb hB
    · exact read_long s w (by omega) hs hb hB
end Go.Proofs.YtocjedheimhfoaaDoor.parse
