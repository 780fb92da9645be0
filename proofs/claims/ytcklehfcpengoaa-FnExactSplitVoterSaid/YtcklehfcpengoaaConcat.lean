/- The walks of the library's join of two lists of integers, neither empty. -/
import Derived.Test.YtcklehfcpengoaaOwn1
import Derived.Lib.AppendZerosOnto
import Derived.Lib.Walk
namespace Go.Proofs.Ytcklehfcpengoaa.concat
open Go.RowKit own own1
set_option linter.unusedVariables false
set_option linter.unusedSimpArgs false

set_option maxRecDepth 100000 in
set_option maxHeartbeats 4000000 in
theorem grow_nil (n : Nat) (z : Int) (hz : z = n) (h0 : 0 < n) (hn : n ≤ 4194304) (w : World) :
    Calls Try.prog 93 #[.slice none 0 0, .int .i64 z] w (fun e w' => ∃ v, e = .returned v ∧ w'.ownsRow w.heap.size 3 1 v 0 [] ∧ Below w.heap.size w w') := by
  subst hz
  obtain ⟨i0, hi, hz0, hz1, hz2⟩ := info_parts infoInt
  have hold : (Builtin.firstCells i0.size 0 (.slice none 0 0)).run Try.prog w.drew = .ok ([] : List Value).toArray w.drew := run_firstCells_none (w := w.drew) i0.size 0 0 0
  have hrz := fun ty => Lib.run_append_grow_zeros w 22 3 ty 3 i0 (.int .i64 0) .i64 .i64 Try.underlying22 Try.underlying3 hi hz0 none 0 0 [] hold n h0 (by omega) (by omega) (by omega) (by rw [hz2]; omega) (growslice_fits (by omega) (by rw [hz2]; omega))
  have HG := Lib.hid (show 0 + n ≤ grownCap w (0 + n) 0 3 ∧ grownCap w (0 + n) 0 3 ≤ maxLen from ⟨grownCap_ge _ _ _ _, grownCap_le_maxLen _ _ _ _ (by unfold maxLen; omega)⟩)
  generalize grownCap w (0 + n) 0 3 = G at *
  have hG := HG.out
  have hG63 : G ≤ 9223372036854775807 := by have := hG.2; unfold maxLen at this; omega
  have h2 : wrap64 ((n : Int) - 0) = (n : Int) := by unfold wrap64; omega
  have h3 : ¬ ((n : Int) < 0) := by omega
  have h4 : (n : Int) > 0 := by omega
  clear hold
  go_enter Try.func93, Try.ntmps93
  go_wp2_with (at_builtin; refine Lib.wpList_append_run _ rfl _ _ _ _ rfl _ _ rfl rfl _ _ (hrz _) ?_)
  all_goals (go_ret; refine ⟨.slice (some ⟨w.heap.size, 0, none⟩) 0 G, rfl, ?_, (below_alloc w _).drew⟩)
  refine (World.ownsRow_made w _ G (Nat.le_refl _) hG.2 ?_).drew
  simp [Builtin.zeroCells]
  omega
/-- The first k of two lists, joined. -/
def joinTo (xs ys : List Int) (k : Nat) : List Int := if k = 0 then [] else if k = 1 then xs else xs ++ ys
set_option maxRecDepth 100000 in
set_option maxHeartbeats 4000000 in
theorem concat (g cc : Nat) (a : Option Addr) (xs : List Int) (c : Nat) (a' : Option Addr) (ys : List Int) (c' : Nat) (w : World) (hr : ints.Reads .i64 w a xs) (hz : ints.Reads .i64 w a' ys) (hx0 : 0 < xs.length) (hy0 : 0 < ys.length) (hn : xs.length ≤ 1048576) (hm : ys.length ≤ 1048576)
    (c0 : w.cell? ⟨g, 0, none⟩ = some (.slice a xs.length c)) (c1 : w.cell? ⟨g, 1, none⟩ = some (.slice a' ys.length c')) (hg : g < w.heap.size) :
    Calls Try.prog 66 #[.slice (some ⟨g, 0, none⟩) 2 cc] w (intfns.Made (xs ++ ys) w) := by
  obtain ⟨i0, hi, hz0, hz1, hz2⟩ := info_parts infoInt
  obtain ⟨bx, ox, rfl, hbx, hcx⟩ := reads_pos hr hx0
  obtain ⟨yb, oy, rfl, hby, hcy⟩ := reads_pos hz hy0
  have HC0 := Lib.hid c0
  have HC1 := Lib.hid c1
  have HCX := Lib.hid hcx
  have HCY := Lib.hid hcy
  have HGR := Lib.hid (grow_nil (xs.length + ys.length) ((xs.length : Int) + (ys.length : Int)) (by omega) (by omega) (by omega) w)
  have e1 : IntKind.i64.wrap (0 + (xs.length : Int)) = (xs.length : Int) := by rw [Int.zero_add]; exact IntWalk.i64_in _ (by omega)
  have e2 : IntKind.i64.wrap ((xs.length : Int) + (ys.length : Int)) = (xs.length : Int) + (ys.length : Int) := IntWalk.i64_in _ (by omega)
  have f1 : ¬ ((xs.length : Int) < 0) := by omega
  have f2 : ¬ ((xs.length : Int) + (ys.length : Int) < 0) := by omega
  clear hr hz hcx hcy
  go_enter Try.func66, Try.ntmps66
  go_wp2_with fail
  go_loopw [3, 11] (fun n i wr => ∃ k : Nat, k ≤ 2 ∧ i = .int .i64 k ∧ n = .int .i64 (if k = 0 then 0 else if k = 1 then (xs.length : Int) else (xs.length : Int) + (ys.length : Int)) ∧ w = wr) (fun _ i _ => 2 - (intOf i).toNat)
  case atStart => exact ⟨0, by omega, rfl, rfl, rfl⟩
  case round =>
    obtain ⟨k, hk, rfl, rfl, rfl⟩ := hrel
    have h3 : k = 0 ∨ k = 1 ∨ k = 2 := by omega
    rcases h3 with rfl | rfl | rfl
    · go_wp2_with fail
      go_roundw
      case rel => exact ⟨1, by omega, by go_num, by go_num, by first | rfl | trivial⟩
      case measure => simp [intOf]
    · go_wp2_with fail
      go_roundw
      case rel => exact ⟨2, by omega, by go_num, by go_num, by first | rfl | trivial⟩
      case measure => simp [intOf]
    · go_wp2_with fail
      refine HGR.out.mono ?_
      rintro e w1 ⟨v, rfl, hown, hb⟩
      have HOw := Lib.hid hown
      have HB1 := Lib.hid hb
      have hs1 := hb.size
      replace c0 := cell_below hb c0 hg
      replace c1 := cell_below hb c1 hg
      clear hown hb
      go_wp2_with fail
      go_loopw [6, 27] (fun v i wr => ∃ k : Nat, k ≤ 2 ∧ i = .int .i64 k ∧ wr.ownsRow w.heap.size 3 1 v (joinTo xs ys k).length ((joinTo xs ys k).map (Value.int .i64)) ∧ Below w.heap.size w wr) (fun _ i _ => 2 - (intOf i).toNat)
      case atStart => exact ⟨0, by omega, rfl, HOw.out, HB1.out⟩
      case round =>
        obtain ⟨k, hk, rfl, hown, hbel⟩ := hrel
        have h3 : k = 0 ∨ k = 1 ∨ k = 2 := by omega
        rcases h3 with rfl | rfl | rfl
        · have c9 := cell_below hbel HC0.out hg
          have HNW := Lib.hid (news_at (w := wr) (b := bx) (off := ox) (zs := xs) fun i hi => cell_below hbel (HCX.out i hi) hbx)
          have HO := Lib.hid hown
          have HBl := Lib.hid hbel
          have hsz := hbel.size
          clear hown hbel c0 c1
          go_wp2_with (at_builtin; refine wpList_append_own _ rfl _ _ 22 rfl w.heap.size 3 i0 (.int .i64 0) 1 8 Try.underlying22 hi hz0 hz1 hz2 rfl (by decide) _ _ _ rfl HO.out ⟨bx, ox, none⟩ xs.length c (xs.map (Value.int .i64)) rfl (by simp) HNW.out (by simp [Value.oneCell']) (by unfold maxLen joinTo; simp; omega) (by simp [joinTo]; omega) (by omega) ?_; intro v' w2 hown' hgrow _)
          have HB2 := Lib.hid (HBl.out.grown hgrow (by omega) (fun g e => (HO.out.lt g e).1))
          have HO2 := Lib.hid (show w2.ownsRow w.heap.size 3 1 v' (joinTo xs ys 1).length ((joinTo xs ys 1).map (Value.int .i64)) from by simpa [joinTo] using hown')
          clear hown' hgrow
          go_wp2_with fail
          go_roundw
          case rel => exact ⟨1, by omega, by go_num, HO2.out, HB2.out⟩
          case measure => simp [intOf]
        · have c9 := cell_below hbel HC1.out hg
          have HNW := Lib.hid (news_at (w := wr) (b := yb) (off := oy) (zs := ys) fun i hi => cell_below hbel (HCY.out i hi) hby)
          have HO := Lib.hid hown
          have HBl := Lib.hid hbel
          have hsz := hbel.size
          clear hown hbel c0 c1
          go_wp2_with (at_builtin; refine wpList_append_own _ rfl _ _ 22 rfl w.heap.size 3 i0 (.int .i64 0) 1 8 Try.underlying22 hi hz0 hz1 hz2 rfl (by decide) _ _ _ rfl HO.out ⟨yb, oy, none⟩ ys.length c' (ys.map (Value.int .i64)) rfl (by simp) HNW.out (by simp [Value.oneCell']) (by unfold maxLen joinTo; simp; omega) (by simp [joinTo]; omega) (by omega) ?_; intro v' w2 hown' hgrow _)
          have HB2 := Lib.hid (HBl.out.grown hgrow (by omega) (fun g e => (HO.out.lt g e).1))
          have HO2 := Lib.hid (show w2.ownsRow w.heap.size 3 1 v' (joinTo xs ys 2).length ((joinTo xs ys 2).map (Value.int .i64)) from by simpa [joinTo] using hown')
          clear hown' hgrow
          go_wp2_with fail
          go_roundw
          case rel => exact ⟨2, by omega, by go_num, HO2.out, HB2.out⟩
          case measure => simp [intOf]
        · have HF := Lib.hid (show intfns.Made (xs ++ ys) w (.returned u6) wr from ⟨u6, rfl, OwnI.of (by simpa [joinTo] using hown), hbel⟩)
          clear hown hbel c0 c1
          go_wp2_with fail
          go_ret
          exact HF.out
end Go.Proofs.Ytcklehfcpengoaa.concat
