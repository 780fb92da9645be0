/- The walks of impl.canJoin and impl.JoinStrings: they return what the plain function gives. -/
import Derived.Test.YtocjedheimhfoaaRows
import Derived.Test.YtocjedheimhfoaaStands
import Derived.Test.YtocjedheimhfoaaShelf
import Derived.Deep.QuietTactic
import Derived.BigQuiet
namespace Go.Proofs.Ytocjedheimhfoaa.joinimpl
open Go.RowKit pjoin
set_option linter.unusedVariables false

theorem contains_yes (s : ByteArray) (b : UInt8) (w : World) (h : has s.data.toList b = true) :
    Calls Try.prog 38 #[.string s, .string ⟨#[b]⟩] w fun e w' => e = .returned (.bool true) ∧ w = w' := by
  refine (Try.strings_Contains_one s b w).mono fun e w' ⟨he, hw⟩ => ⟨?_, hw.symm⟩
  rw [he, ← Lib.contains_iff_indexByte]
  unfold has at h
  rw [h]

theorem contains_no (s : ByteArray) (b : UInt8) (w : World) (h : has s.data.toList b = false) :
    Calls Try.prog 38 #[.string s, .string ⟨#[b]⟩] w fun e w' => e = .returned (.bool false) ∧ w = w' := by
  refine (Try.strings_Contains_one s b w).mono fun e w' ⟨he, hw⟩ => ⟨?_, hw.symm⟩
  rw [he, ← Lib.contains_iff_indexByte]
  unfold has at h
  rw [h]

set_option maxHeartbeats 1000000 in
theorem can_any (a : Option Addr) (ss : List ByteArray) (c : Nat) (b : UInt8) (w : World) (hr : strs.Reads w a ss) (hn : 0 < ss.length) (ht : (ss.length : Int) + (strs.tot ss : Int) ≤ 1048576) :
    Calls Try.prog 30 #[.slice a ss.length c, .string ⟨#[b]⟩] w fun e w' => e = .returned (.bool (ok ss b)) ∧ w = w' := by
  go_enter Try.func30, Try.ntmps30
  go_wp2_with fail
  go_loop [5, 13] (fun l i => ∃ (k : Nat), k ≤ ss.length ∧ i = .int .i64 k ∧ l = .int .i64 (-1 + (strs.tot (ss.take k) + k : Nat)) ∧ clean (ss.take k) b = true ∧
      (0 < k → strs.tot (ss.take k) + k ≤ 4001)) (fun _ i => ss.length - (intOf i).toNat)
  case atStart => exact ⟨0, Nat.zero_le _, rfl, rfl, rfl, fun h => absurd h (Nat.lt_irrefl _)⟩
  case round =>
    obtain ⟨k, hk, rfl, rfl, hcl, hnz⟩ := hrel
    have HC := Lib.hid hcl
    have HN := Lib.hid hnz
    clear hcl hnz
    have hle0 := strs.tot_take_le ss k
    by_cases hlt : k < ss.length
    · obtain ⟨bk, off, rfl, hb, hc⟩ := hr.at hlt
      obtain ⟨s, hs⟩ : ∃ s, s = ss.getD k ByteArray.empty := ⟨_, rfl⟩
      have hts := strs.tot_take_succ ss k hlt
      have hle := strs.tot_take_le ss (k + 1)
      rw [← hs] at hc hts
      have hss : s.size ≤ 1048576 := by omega
      have HS := Lib.hid hs
      have HT := Lib.hid hts
      clear hs hts hle
      obtain ⟨x, hx⟩ : ∃ x, x = strs.tot (ss.take k) + k := ⟨_, rfl⟩
      rw [← hx]
      have hx1 : x ≤ 2097152 := by omega
      have HX := Lib.hid hx
      clear hx hle0
      by_cases hst : has s.data.toList b = true
      · have HR := Lib.hid (not_ok_byte ss k hlt b (by rw [← HS.out]; exact hst))
        have HST := Lib.hid hst
        clear hst
        go_wp2_with (go_at_call 38; refine (contains_yes _ _ _ HST.out).mono ?_; rintro e w' ⟨rfl, rfl⟩)
        all_goals go_ret
        all_goals exact ⟨by rw [HR.out]; rfl, rfl⟩
      · have HST := Lib.hid (show has s.data.toList b = false by simpa using hst)
        clear hst
        have HCl := Lib.hid (show clean (ss.take (k + 1)) b = true by rw [clean_take_succ ss k hlt, HC.out, ← HS.out, HST.out]; rfl)
        by_cases hl : 4000 < -1 + (x : Int) + (1 + s.size)
        · have HR := Lib.hid (not_ok_long ss k hlt b (by rw [HT.out]; have := HX.out; omega))
          go_wp2_with (go_at_call 38; refine (contains_no _ _ _ HST.out).mono ?_; rintro e w' ⟨rfl, rfl⟩)
          go_ret
          exact ⟨by rw [HR.out]; rfl, rfl⟩
        · go_wp2_with (go_at_call 38; refine (contains_no _ _ _ HST.out).mono ?_; rintro e w' ⟨rfl, rfl⟩)
          go_round
          case rel =>
            refine ⟨k + 1, by omega, by go_num, ?_, HCl.out, fun _ => ?_⟩
            · rw [HT.out]; have := HX.out; go_num
            · rw [HT.out]; have := HX.out; omega
          case measure => simp [intOf]; omega
    · have : k = ss.length := by omega
      subst this
      have HR := Lib.hid (ok_all ss b HC.out (HN.out hn))
      go_wp2
      go_ret
      exact ⟨by rw [HR.out]; rfl, rfl⟩

theorem can_yes (a : Option Addr) (ss : List ByteArray) (c : Nat) (b : UInt8) (w : World) (hr : strs.Reads w a ss) (hn : 0 < ss.length) (ht : (ss.length : Int) + (strs.tot ss : Int) ≤ 1048576) (h : ok ss b = true) :
    Calls Try.prog 30 #[.slice a ss.length c, .string ⟨#[b]⟩] w fun e w' => e = .returned (.bool true) ∧ w = w' := by
  have := can_any a ss c b w hr hn ht
  rw [h] at this
  exact this

theorem can_no (a : Option Addr) (ss : List ByteArray) (c : Nat) (b : UInt8) (w : World) (hr : strs.Reads w a ss) (hn : 0 < ss.length) (ht : (ss.length : Int) + (strs.tot ss : Int) ≤ 1048576) (h : ok ss b = false) :
    Calls Try.prog 30 #[.slice a ss.length c, .string ⟨#[b]⟩] w fun e w' => e = .returned (.bool false) ∧ w = w' := by
  have := can_any a ss c b w hr hn ht
  rw [h] at this
  exact this

theorem bad_any (a : Option Addr) (n c : Nat) (sep : ByteArray) (w : World) (hn : n ≤ 1048576) (hs : sep.size ≤ 1048576) (hb : (decide (sep.size = 1) && decide (0 < n)) = false) :
    Calls Try.prog 12 #[.slice a n c, .string sep] w fun e w' => e = .returned bad ∧ w = w' := by
  by_cases h2 : n = 0
  · subst h2
    clear hb
    go_enter Try.func12, Try.ntmps12
    go_wp2_with fail
    go_ret2
    exact ⟨rfl, rfl⟩
  · have h1 : sep.size ≠ 1 := by intro e; simp [e] at hb; omega
    have h1' : ((sep.size : Int) != 1) = true := by simp; omega
    have h2' : ((n : Int) == 0) = false := by simp; omega
    clear hb h1 h2
    go_enter Try.func12, Try.ntmps12
    go_wp2_with fail
    go_ret2
    exact ⟨rfl, rfl⟩

theorem no_any (a : Option Addr) (ss : List ByteArray) (c : Nat) (b : UInt8) (w : World) (hr : strs.Reads w a ss) (hn : 0 < ss.length) (ht : (ss.length : Int) + (strs.tot ss : Int) ≤ 1048576) (h : Hid (ok ss b = false)) :
    Calls Try.prog 12 #[.slice a ss.length c, .string ⟨#[b]⟩] w fun e w' => e = .returned bad ∧ w = w' := by
  have h2' : ((ss.length : Int) == 0) = false := by simp; intro e; subst e; simp at hn
  go_enter Try.func12, Try.ntmps12
  go_wp2_with (go_at_call 30; refine (can_no _ _ _ _ _ hr hn ht h.out).mono ?_; rintro e w' ⟨rfl, rfl⟩)
  go_ret2
  exact ⟨rfl, rfl⟩

theorem jn_length (ss : List ByteArray) (b : UInt8) (h : ok ss b = true) (hn : 0 < ss.length) : (Lib.join (ss.map fun s => s.data.toList) [b]).length ≤ 140737488355328 := by
  have h2 : strs.tot ss + ss.length ≤ 4001 := by simp [ok] at h; exact h.2
  cases ss with
  | nil => simp at hn
  | cons x r =>
    rw [List.map_cons, Lib.join_cons, List.length_append, Lib.joinTail_length]
    simp only [strs.tot, List.map_cons, List.sum_cons, List.length_cons, Lib.lens, List.length_map, List.length_nil, List.map_map] at *
    have e : (List.map ((fun x : List UInt8 => x.length) ∘ fun s : ByteArray => s.data.toList) r).sum = (List.map ByteArray.size r).sum := by
      congr 1
    have e2 : x.data.toList.length = x.size := by simp
    rw [e, e2]
    omega

theorem yes_any (a : Option Addr) (ss : List ByteArray) (c : Nat) (b : UInt8) (w : World) (hr : strs.Reads w a ss) (hn : 0 < ss.length) (ht : (ss.length : Int) + (strs.tot ss : Int) ≤ 1048576) (h : Hid (ok ss b = true)) (hc : ss.length ≤ c) :
    Calls Try.prog 12 #[.slice a ss.length c, .string ⟨#[b]⟩] w fun e w' => e = .returned (good (jn ss [b])) ∧ Below w.heap.size w w' := by
  have h2' : ((ss.length : Int) == 0) = false := by simp; intro e; subst e; simp at hn
  rcases id hr with h0 | ⟨bk, off, rfl, hb, hcell⟩
  · subst h0; simp at hn
  have HC := Lib.hid (show ∀ (j : Nat) x, ss[j]? = some x → w.cell? ⟨bk, off + j, none⟩ = some (.string x) from fun j x hx => by
    obtain ⟨hj, rfl⟩ := List.getElem?_eq_some_iff.1 hx
    rw [hcell j hj, List.getD_eq_getElem?_getD, List.getElem?_eq_getElem hj]
    rfl)
  clear hcell
  go_enter Try.func12, Try.ntmps12
  go_wp2_with (first
    | (go_at_call 30; refine (can_yes _ _ _ _ _ hr hn ht h.out).mono ?_; rintro e w' ⟨rfl, rfl⟩)
    | (go_at_call 31; refine (Try.strings_Join bk off c ss ⟨#[b]⟩ _ HC.out hb (by omega) hc (jn_length ss b h.out hn)).mono ?_; rintro e w' ⟨rfl, hbel⟩))
  go_ret2
  exact ⟨rfl, hbel⟩
end Go.Proofs.Ytocjedheimhfoaa.joinimpl
