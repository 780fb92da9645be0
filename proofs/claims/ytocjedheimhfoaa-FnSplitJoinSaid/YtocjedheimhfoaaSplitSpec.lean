/- The walk of spec.l1Split: the slice that it hands back is its own and holds the pieces. -/
import Derived.Test.YtocjedheimhfoaaRows
import Derived.Test.YtocjedheimhfoaaPlainSplit
import Derived.WalkSpells
import Derived.WalkLawsBesides
import Derived.Outline
import Derived.Maps.AppendAt
namespace Go.Proofs.Ytocjedheimhfoaa.splitspec
open Go.RowKit psplit
set_option linter.unusedVariables false

theorem infoStr : (Try.prog.info? 9).map (fun i => (i.zero, i.size, i.bytes)) = some (some (.string ByteArray.empty), 1, 16) := by kernel_rfl

set_option maxHeartbeats 1000000 in
theorem l1Split_any (s : ByteArray) (b : UInt8) (w : World) (hs : s.size ≤ 1048576) :
    Calls Try.prog 33 #[.string s, .int .u8 b.toNat] w fun e w' => ∃ v, e = .returned v ∧ w'.ownsRow w.heap.size 9 1 v (pieces s b).length ((pieces s b).map Value.string) ∧ Below w.heap.size w w' := by
  obtain ⟨i0, hi, hz0, hz1, hz2⟩ := info_parts infoStr
  go_enter Try.func33, Try.ntmps33
  go_wp2_with fail
  have hown0 := World.ownsRow_made (base := w.heap.size) (e := 9) (size := 1) w #[] 0 (Nat.le_refl _) (by unfold maxLen; omega) rfl
  have hb0 : Below w.heap.size w (w.alloc (.cells #[] 9)) := (Below.refl _ _).alloc (Nat.le_refl _) _
  go_loopw [5, 6, 7] (fun v f i wr => ∃ k : Nat, k ≤ s.size ∧ i = .int .i64 k ∧ f = .int .i64 (st s b k).2 ∧
      wr.ownsRow w.heap.size 9 1 v (st s b k).1.length ((st s b k).1.map Value.string) ∧ Below w.heap.size w wr) (fun _ _ i _ => s.size - (intOf i).toNat)
  case atStart => exact ⟨0, Nat.zero_le _, rfl, rfl, hown0, hb0⟩
  case round =>
    obtain ⟨k, hk, rfl, rfl, hown, hbel⟩ := hrel
    clear hown0 hb0
    have hfk := from_le s b k
    have hck := count_le s b k
    have hsz := hbel.size
    have HB := Lib.hid hbel
    clear hbel
    by_cases hlt : k < s.size
    · by_cases hbk : s[k] = b
      · have HS := Lib.hid (st_hit s b k hlt hbk)
        have hb' : (((s[k].toNat : Int)) == (b.toNat : Int)) = true := by rw [hbk]; simp
        clear hbk
        generalize hP : (st s b k).1 = P at *
        generalize hF : (st s b k).2 = F at *
        clear hP hF
        go_wp2_with (at_builtin; refine wpList_append_own _ rfl _ _ 26 rfl w.heap.size 9 i0 (.string ByteArray.empty) 1 16 Try.underlying26 hi hz0 hz1 hz2 rfl (by decide) _ _ _ rfl (hown.alloc _) ⟨wr.heap.size, 0, none⟩ 1 1 [.string (s.extract F k)] rfl rfl (cell_one_new _ _ _) (by simp [Value.oneCell']) (by unfold maxLen; omega) (by omega) (by simp; omega) ?_; intro v' w1 hown' hgrow _; refine Hid.out ?_)
        refine Lib.hid ?_
        have HO := Lib.hid hown'
        have hb1 : Below w.heap.size w w1 := (HB.out.alloc hsz _).grown hgrow (by simp; omega) (fun j e => (hown.lt j e).1)
        have HB1 := Lib.hid hb1
        clear hown hown' hgrow hb1
        go_wp2
        go_roundw
        case rel =>
          refine ⟨k + 1, by omega, by go_num, ?_, ?_, HB1.out⟩
          · rw [HS.out]; go_num
          · rw [HS.out, List.length_append, List.map_append]; exact HO.out
        case measure => simp [intOf]; omega
      · have HS := Lib.hid (st_miss s b k hlt hbk)
        have hb' : (((s[k].toNat : Int)) == (b.toNat : Int)) = false := by
          rw [beq_eq_false_iff_ne]
          intro e
          exact hbk (UInt8.toNat_inj.1 (by omega))
        have HO := Lib.hid hown
        clear hbk hown
        go_wp2_with fail
        go_roundw
        case rel => exact ⟨k + 1, by omega, by go_num, by rw [HS.out], by rw [HS.out]; exact HO.out, HB.out⟩
        case measure => simp [intOf]; omega
    · have : k = s.size := by omega
      subst this
      have HP := Lib.hid (show pieces s b = (st s b s.size).1 ++ [s.extract (st s b s.size).2 s.size] from rfl)
      generalize hP : (st s b s.size).1 = P at *
      generalize hF : (st s b s.size).2 = F at *
      clear hP hF
      go_wp2_with (at_builtin; refine wpList_append_own _ rfl _ _ 26 rfl w.heap.size 9 i0 (.string ByteArray.empty) 1 16 Try.underlying26 hi hz0 hz1 hz2 rfl (by decide) _ _ _ rfl (hown.alloc _) ⟨wr.heap.size, 0, none⟩ 1 1 [.string (s.extract F s.size)] rfl rfl (cell_one_new _ _ _) (by simp [Value.oneCell']) (by unfold maxLen; omega) (by omega) (by simp; omega) ?_; intro v' w1 hown' hgrow _; refine Hid.out ?_)
      refine Lib.hid ?_
      have HO := Lib.hid hown'
      have hb1 : Below w.heap.size w w1 := (HB.out.alloc hsz _).grown hgrow (by simp; omega) (fun j e => (hown.lt j e).1)
      have HB1 := Lib.hid hb1
      clear hown hown' hgrow hb1
      go_wp2
      go_ret
      refine ⟨_, rfl, ?_, HB1.out⟩
      rw [HP.out, List.length_append, List.map_append]
      exact HO.out

/-- A slice of the call's own that holds something: where it lies. -/
theorem owns_pos {w : World} {base : Nat} {e : TypeId} {v : Value} {n : Nat} {xs : List Value} (h : w.ownsRow base e 1 v n xs) (hn : 0 < n) : ∃ g cap, v = .slice (some ⟨g, 0, none⟩) n cap ∧ base ≤ g := by
  rcases h.2 with ⟨_, h0⟩ | ⟨g, cap, _, hv, hg, _⟩
  · omega
  · exact ⟨g, cap, hv, hg⟩

theorem l1Split_own (s : ByteArray) (b : UInt8) (w : World) (hs : s.size ≤ 1048576) :
    Calls Try.prog 33 #[.string s, .int .u8 b.toNat] w fun e w' => ∃ g cap, e = .returned (.slice (some ⟨g, 0, none⟩) (pieces s b).length cap) ∧
      w'.ownsRow w.heap.size 9 1 (.slice (some ⟨g, 0, none⟩) (pieces s b).length cap) (pieces s b).length ((pieces s b).map Value.string) ∧ Below w.heap.size w w' :=
  (l1Split_any s b w hs).mono fun e w' ⟨v, he, ho, hb⟩ => by
    obtain ⟨g, cap, hv, _⟩ := owns_pos ho (pieces_pos s b)
    subst hv
    exact ⟨g, cap, he, ho, hb⟩
end Go.Proofs.Ytocjedheimhfoaa.splitspec
