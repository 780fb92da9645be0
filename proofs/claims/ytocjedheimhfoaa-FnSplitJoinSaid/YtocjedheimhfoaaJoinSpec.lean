/- The walk of spec.JoinStrings: it returns what the plain function gives. -/
import Derived.Test.YtocjedheimhfoaaRows
import Derived.Test.YtocjedheimhfoaaStands
import Derived.Deep.QuietTactic
import Derived.BigQuiet
namespace Go.Proofs.Ytocjedheimhfoaa.joinspec
open Go.RowKit pjoin
set_option linter.unusedVariables false

theorem below_drewN {B : Nat} {w wr : World} (h : Below B w wr) (n : Nat) : Below B w (wr.drewN n) := ⟨h.os, h.tape, h.output, h.size, h.block⟩

theorem bad_any (a : Option Addr) (n c : Nat) (sep : ByteArray) (w : World) (hn : n ≤ 1048576) (hs : sep.size ≤ 1048576) (hb : (decide (sep.size = 1) && decide (0 < n)) = false) :
    Calls Try.prog 13 #[.slice a n c, .string sep] w fun e w' => e = .returned bad ∧ w = w' := by
  by_cases h1 : sep.size = 1
  · have h2 : n = 0 := by simp [h1] at hb; omega
    have h1' : ((sep.size : Int) != 1) = false := by rw [h1]; rfl
    subst h2
    clear hb h1
    go_enter Try.func13, Try.ntmps13
    go_wp2_with fail
    go_ret2
    exact ⟨rfl, rfl⟩
  · have h1' : ((sep.size : Int) != 1) = true := by simp; omega
    clear hb h1
    go_enter Try.func13, Try.ntmps13
    go_wp2_with fail
    go_ret2
    exact ⟨rfl, rfl⟩

set_option maxHeartbeats 1000000 in
theorem main_any (a : Option Addr) (ss : List ByteArray) (c : Nat) (sep : ByteArray) (b : UInt8) (w : World) (hr : strs.Reads w a ss) (hn : 0 < ss.length) (ht : (ss.length : Int) + (strs.tot ss : Int) ≤ 1048576)
    (hs1 : 1 ≤ sep.size) (hs2 : sep.size ≤ 1) (hsb : Hid (sep[0] = b)) :
    Calls Try.prog 13 #[.slice a ss.length c, .string sep] w fun e w' => e = .returned (res ss sep.data.toList b) ∧ Below w.heap.size w w' := by
  have h1' : ((sep.size : Int) != 1) = false := by rw [show sep.size = 1 by omega]; rfl
  have h2' : ((ss.length : Int) == 0) = false := by simp; intro e; subst e; simp at hn
  go_enter Try.func13, Try.ntmps13
  go_wp2_with fail
  go_loopw [6, 7] (fun out i wr => ∃ (k : Nat) (o : ByteArray), k ≤ ss.length ∧ i = .int .i64 k ∧ out = .string o ∧ o.data.toList = jn (ss.take k) sep.data.toList ∧ clean (ss.take k) b = true ∧
      (k = 0 → o.size = 0) ∧ (0 < k → o.size + 1 = strs.tot (ss.take k) + k ∧ o.size ≤ 4000) ∧ Below w.heap.size w wr) (fun _ i _ => ss.length - (intOf i).toNat)
  case atStart => exact ⟨0, ByteArray.empty, Nat.zero_le _, rfl, rfl, rfl, rfl, fun _ => rfl, fun h => absurd h (Nat.lt_irrefl _), Below.refl _ _⟩
  case round =>
    obtain ⟨k, o, hk, rfl, rfl, ho, hcl, hz, hnz, hbel⟩ := hrel
    have HO := Lib.hid ho
    have HC := Lib.hid hcl
    have HZ := Lib.hid hz
    have HN := Lib.hid hnz
    clear ho hcl hz hnz
    by_cases hlt : k < ss.length
    · obtain ⟨bk, off, rfl, hb, hc⟩ := (hr.below hbel).at hlt
      have HB := Lib.hid hbel
      clear hbel
      obtain ⟨s, hs⟩ : ∃ s, s = ss.getD k ByteArray.empty := ⟨_, rfl⟩
      have hts := strs.tot_take_succ ss k hlt
      have hle := strs.tot_take_le ss (k + 1)
      rw [← hs] at hc hts
      have hss : s.size ≤ 1048576 := by omega
      have HS := Lib.hid hs
      have HT := Lib.hid hts
      clear hs hts hle
      have hsign : (sep[0]'(by omega)).toNat = b.toNat := by rw [hsb.out]
      by_cases hst : has s.data.toList b = true
      · have HR := Lib.hid (res_no (sep := sep.data.toList) (not_ok_byte ss k hlt b (by rw [← HS.out]; exact hst)))
        have HST := Lib.hid hst
        clear hst
        go_wp2
        go_quiet ((go_at_call 32; exact Calls.quiet_of_same (stands.stands_yes _ _ _ (by omega) HST.out)))
        go_wp2
        go_ret2
        exact ⟨by rw [HR.out]; rfl, below_drewN HB.out _⟩
      · have HST := Lib.hid (show has s.data.toList b = false by simpa using hst)
        clear hst
        have HCl := Lib.hid (show clean (ss.take (k + 1)) b = true by rw [clean_take_succ ss k hlt, HC.out, ← HS.out, HST.out]; rfl)
        by_cases hk0 : k = 0
        · subst hk0
          rw [Nat.add_zero] at hc
          have ho0 : o.size ≤ 0 := by have := HZ.out rfl; omega
          have hn2 : ¬ 9223372036854775807 < o.size + s.size := by omega
          have HT0 := Lib.hid (show strs.tot (ss.take 0) = 0 from rfl)
          have HJ := Lib.hid (jn_one ss sep.data.toList hlt)
          go_wp2
          go_quiet ((go_at_call 32; exact Calls.quiet_of_same (stands.stands_no _ _ _ (by omega) HST.out)))
          go_wp2
          · have h4 : 4000 < (o.size : Int) + s.size := by assumption
            have HR := Lib.hid (res_no (sep := sep.data.toList) (not_ok_long ss 0 hlt b (by rw [HT.out, HT0.out]; omega)))
            go_ret2
            exact ⟨by rw [HR.out]; rfl, below_drewN HB.out _⟩
          · have h4 : (o.size : Int) + s.size ≤ 4000 := by assumption
            go_roundw
            case rel =>
              refine ⟨0 + 1, o ++ s, by omega, by go_num, rfl, ?_, HCl.out, fun h => by omega, fun _ => ⟨?_, ?_⟩, below_drewN HB.out _⟩
              · have e := HO.out
                rw [jn_zero] at e
                rw [HJ.out, ← HS.out]
                simp [e]
              · rw [HT.out, HT0.out, ByteArray.size_append]; omega
              · rw [ByteArray.size_append]; omega
            case measure => simp [intOf]; omega
        · have hkp : 0 < k := by omega
          have ho0 : o.size ≤ 4000 := (HN.out hkp).2
          have hn1 : ¬ 9223372036854775807 < o.size + sep.size := by omega
          have hn2 : ¬ 9223372036854775807 < o.size + sep.size + s.size := by omega
          have HJ := Lib.hid (jn_succ ss sep.data.toList k hkp hlt)
          go_wp2
          go_quiet ((go_at_call 32; exact Calls.quiet_of_same (stands.stands_no _ _ _ (by omega) HST.out)))
          go_wp2
          · have h4 : 4000 < (o.size : Int) + sep.size + s.size := by assumption
            have HR := Lib.hid (res_no (sep := sep.data.toList) (not_ok_long ss k hlt b (by rw [HT.out]; have := (HN.out hkp).1; omega)))
            go_ret2
            exact ⟨by rw [HR.out]; rfl, below_drewN HB.out _⟩
          · have h4 : (o.size : Int) + sep.size + s.size ≤ 4000 := by assumption
            go_roundw
            case rel =>
              refine ⟨k + 1, o ++ sep ++ s, by omega, by go_num, rfl, ?_, HCl.out, fun h => by omega, fun _ => ⟨?_, ?_⟩, below_drewN HB.out _⟩
              · rw [HJ.out, ← HS.out, ← HO.out]
                simp
              · rw [HT.out, ByteArray.size_append, ByteArray.size_append]; have := (HN.out hkp).1; omega
              · rw [ByteArray.size_append, ByteArray.size_append]; omega
            case measure => simp [intOf]; omega
    · have : k = ss.length := by omega
      subst this
      have hok := ok_all ss b HC.out (by have := (HN.out hn).1; have := (HN.out hn).2; omega)
      have HR := Lib.hid (res_yes (sep := sep.data.toList) hok)
      have HB := Lib.hid hbel
      clear hbel hok
      go_wp2
      go_ret2
      refine ⟨?_, HB.out⟩
      rw [HR.out, good, ← jn_all, ← HO.out]
      rfl
end Go.Proofs.Ytocjedheimhfoaa.joinspec
