/- The walks of the library's join of two lists, empty ones too: integers, and rows. -/
import Derived.Test.YtkbcofgigfnfaabOwn1
import Derived.Deep.AppendLies
import Derived.Deep.DrawnRows
import Derived.Lib.AppendZerosOnto
import Derived.Lib.Walk
namespace Go.Proofs.Ytkbcofgigfnfaab.concate
open Go.RowKit own own1
set_option linter.unusedVariables false
set_option linter.unusedSimpArgs false

theorem infoSl : (Try.prog.info? 23).map (fun i => (i.zero, i.size, i.bytes)) = some (some (.slice none 0 0), 1, 24) := by kernel_rfl
/-- The values of a list in memory. -/
def CellsAt (w : World) (a : Option Addr) (vs : List Value) : Prop := vs = [] ∨ ∃ b off, a = some ⟨b, off, none⟩ ∧ b < w.heap.size ∧ ∀ j u, vs[j]? = some u → w.cell? ((⟨b, off, none⟩ : Addr).add j) = some u
theorem CellsAt.below {w w' : World} {a : Option Addr} {vs : List Value} (h : CellsAt w a vs) (hb : Below w.heap.size w w') : CellsAt w' a vs := by
  rcases h with h | ⟨b, off, e, hlt, hc⟩
  · exact .inl h
  · refine .inr ⟨b, off, e, Nat.lt_of_lt_of_le hlt hb.size, fun j u hu => ?_⟩
    have := hc j u hu
    rw [Go.WideShapes.add_plain] at this ⊢
    exact cell_below hb this hlt
theorem cells_ints {w : World} {a : Option Addr} {zs : List Int} (h : ints.Reads .i64 w a zs) : CellsAt w a (zs.map (Value.int .i64)) := by
  rcases Nat.eq_zero_or_pos zs.length with h0 | h0
  · exact .inl (by rw [List.length_eq_zero_iff.1 h0]; rfl)
  · obtain ⟨b, off, rfl, hb, hc⟩ := reads_pos h h0
    exact .inr ⟨b, off, rfl, hb, news_at hc⟩
theorem run_none {w : World} {base : Nat} {P : Program} (t ty e : TypeId) (i : TypeInfo) (size : Nat) (ht : P.underlying t = some (.slice e)) (hi : P.info? e = some i)
    (v : Value) (n : Nat) (xs : List Value) (hown : w.ownsRow base e size v n xs) (c : Nat) :
    (Builtin.append_ #[t, t] ty #[v, .slice none 0 c]).run P w = .ok v w := by
  rcases hown.2 with ⟨rfl, rfl⟩ | ⟨g, cap, cur, rfl, _, _, hnc, _⟩
  · simp [Builtin.append_, run_underlying ht, sizeOf, typeInfo, hi, Builtin.lenOf, Builtin.firstCells]
  · simp [Builtin.append_, run_underlying ht, sizeOf, typeInfo, hi, Builtin.lenOf, Builtin.firstCells, hnc, storeCells]
/-- The first k of two lists, joined. -/
def joinV (xs ys : List Value) (k : Nat) : List Value := if k = 0 then [] else if k = 1 then xs else xs ++ ys
set_option maxRecDepth 100000 in
set_option maxHeartbeats 4000000 in
theorem growI (n : Nat) (z : Int) (hz : z = n) (h0 : 0 < n) (hn : n ≤ 4194304) (w : World) :
    Calls Try.prog 204 #[.slice none 0 0, .int .i64 z] w ((fun e w' => ∃ v, e = .returned v ∧ w'.ownsRow w.heap.size 3 1 v 0 [] ∧ Below w.heap.size w w')) := by
  subst hz
  obtain ⟨i0, hi, hz0, hz1, hz2⟩ := info_parts infoInt
  have hold : (Builtin.firstCells i0.size 0 (.slice none 0 0)).run Try.prog w.drew = .ok ([] : List Value).toArray w.drew := run_firstCells_none (w := w.drew) i0.size 0 0 0
  have hrz := fun ty => Lib.run_append_grow_zeros w 23 3 ty 3 i0 (.int .i64 0) .i64 .i64 Try.underlying23 Try.underlying3 hi hz0 none 0 0 [] hold n h0 (by omega) (by omega) (by omega) (by rw [hz2]; omega) (growslice_fits (by omega) (by rw [hz2]; omega))
  have HG := Lib.hid (show 0 + n ≤ grownCap w (0 + n) 0 3 ∧ grownCap w (0 + n) 0 3 ≤ maxLen from ⟨grownCap_ge _ _ _ _, grownCap_le_maxLen _ _ _ _ (by unfold maxLen; omega)⟩)
  generalize grownCap w (0 + n) 0 3 = G at *
  have hG := HG.out
  have hG63 : G ≤ 9223372036854775807 := by have := hG.2; unfold maxLen at this; omega
  have h2 : wrap64 ((n : Int) - 0) = (n : Int) := by unfold wrap64; omega
  have h3 : ¬ ((n : Int) < 0) := by omega
  have h4 : (n : Int) > 0 := by omega
  clear hold
  go_enter Try.func204, Try.ntmps204
  go_wp2_with (at_builtin; refine Lib.wpList_append_run _ rfl _ _ _ _ rfl _ _ rfl rfl _ _ (hrz _) ?_)
  all_goals (go_ret; refine ⟨.slice (some ⟨w.heap.size, 0, none⟩) 0 G, rfl, ?_, (below_alloc w _).drew⟩)
  refine (World.ownsRow_made w _ G (Nat.le_refl _) hG.2 ?_).drew
  simp [Builtin.zeroCells]
  omega
set_option maxRecDepth 100000 in
set_option maxHeartbeats 4000000 in
theorem grow0I (z : Int) (hz : z = 0) (w : World) :
    Calls Try.prog 204 #[.slice none 0 0, .int .i64 z] w ((fun e w' => ∃ v, e = .returned v ∧ w'.ownsRow w.heap.size 3 1 v 0 [] ∧ Below w.heap.size w w')) := by
  subst hz
  have HF := Lib.hid (show ∃ v, Ending.returned (.slice none 0 0) = .returned v ∧ w.ownsRow w.heap.size 3 1 v 0 [] ∧ Below w.heap.size w w from ⟨_, rfl, ⟨rfl, .inl ⟨rfl, rfl⟩⟩, Below.refl _ _⟩)
  go_enter Try.func204, Try.ntmps204
  go_wp2_with fail
  go_ret
  exact HF.out
theorem growsI (n : Nat) (z : Int) (hz : z = n) (hn : n ≤ 4194304) (w : World) :
    Calls Try.prog 204 #[.slice none 0 0, .int .i64 z] w ((fun e w' => ∃ v, e = .returned v ∧ w'.ownsRow w.heap.size 3 1 v 0 [] ∧ Below w.heap.size w w')) := by
  rcases Nat.eq_zero_or_pos n with rfl | h0
  · exact grow0I z (by simpa using hz) w
  · exact growI n z hz h0 hn w
set_option maxRecDepth 100000 in
set_option maxHeartbeats 4000000 in
theorem concatI (g cc : Nat) (a : Option Addr) (xs : List Value) (c : Nat) (a' : Option Addr) (ys : List Value) (c' : Nat) (w : World) (hr : CellsAt w a xs) (hz : CellsAt w a' ys) (hx1 : ∀ u ∈ xs, u.oneCell' = true) (hy1 : ∀ u ∈ ys, u.oneCell' = true) (hn : xs.length ≤ 1048576) (hm : ys.length ≤ 1048576)
    (c0 : w.cell? ⟨g, 0, none⟩ = some (.slice a xs.length c)) (c1 : w.cell? ⟨g, 1, none⟩ = some (.slice a' ys.length c')) (hg : g < w.heap.size) :
    Calls Try.prog 166 #[.slice (some ⟨g, 0, none⟩) 2 cc] w ((fun e w' => ∃ v, e = .returned v ∧ w'.ownsRow w.heap.size 3 1 v (xs ++ ys).length (xs ++ ys) ∧ Below w.heap.size w w')) := by
  obtain ⟨i0, hi, hz0, hz1, hz2⟩ := info_parts infoInt
  have HC0 := Lib.hid c0
  have HC1 := Lib.hid c1
  have HV0 := Lib.hid hr
  have HV1 := Lib.hid hz
  have HX1 := Lib.hid hx1
  have HY1 := Lib.hid hy1
  have HGR := Lib.hid (growsI (xs.length + ys.length) ((xs.length : Int) + (ys.length : Int)) (by omega) (by omega) w)
  have e1 : IntKind.i64.wrap (0 + (xs.length : Int)) = (xs.length : Int) := by rw [Int.zero_add]; exact IntWalk.i64_in _ (by omega)
  have e2 : IntKind.i64.wrap ((xs.length : Int) + (ys.length : Int)) = (xs.length : Int) + (ys.length : Int) := IntWalk.i64_in _ (by omega)
  have f1 : ¬ ((xs.length : Int) < 0) := by omega
  have f2 : ¬ ((xs.length : Int) + (ys.length : Int) < 0) := by omega
  clear hr hz hx1 hy1
  go_enter Try.func166, Try.ntmps166
  go_wp2_with fail
  go_loopw [3, 11] (fun n i wr => ∃ k : Nat, k ≤ 2 ∧ i = .int .i64 k ∧ n = .int .i64 (if k = 0 then 0 else if k = 1 then (xs.length : Int) else (xs.length : Int) + (ys.length : Int)) ∧ w = wr) (fun _ i _ => 2 - (intOf i).toNat)
  case atStart => exact ⟨0, by omega, rfl, rfl, rfl⟩
  case round =>
    obtain ⟨k, hk, rfl, rfl, rfl⟩ := hrel
    have h3 : k = 0 ∨ k = 1 ∨ k = 2 := by omega
    rcases h3 with rfl | rfl | rfl
    · go_wp2_with fail
      go_roundw
      case rel => exact ⟨1, by omega, by go_num, by go_num, by first | rfl | trivial⟩
      case measure => simp [intOf]
    · go_wp2_with fail
      go_roundw
      case rel => exact ⟨2, by omega, by go_num, by go_num, by first | rfl | trivial⟩
      case measure => simp [intOf]
    · go_wp2_with fail
      refine HGR.out.mono ?_
      rintro e w1 ⟨v, rfl, hown, hb⟩
      have HOw := Lib.hid hown
      have HB1 := Lib.hid hb
      have hs1 := hb.size
      replace c0 := cell_below hb c0 hg
      replace c1 := cell_below hb c1 hg
      clear hown hb
      go_wp2_with fail
      go_loopw [6, 27] (fun v i wr => ∃ k : Nat, k ≤ 2 ∧ i = .int .i64 k ∧ wr.ownsRow w.heap.size 3 1 v (joinV xs ys k).length (joinV xs ys k) ∧ Below w.heap.size w wr) (fun _ i _ => 2 - (intOf i).toNat)
      case atStart => exact ⟨0, by omega, rfl, HOw.out, HB1.out⟩
      case round =>
        obtain ⟨k, hk, rfl, hown, hbel⟩ := hrel
        have h3 : k = 0 ∨ k = 1 ∨ k = 2 := by omega
        rcases h3 with rfl | rfl | rfl
        · skip
          have c9 := cell_below hbel HC0.out hg
          have hv9 := HV0.out.below hbel
          have HO := Lib.hid hown
          have HBl := Lib.hid hbel
          have hsz := hbel.size
          clear hown hbel c0 c1
          rcases hv9 with hv9 | ⟨b9, o9, hv9, hb9, hn9⟩
          · have HE := Lib.hid hv9
            have hl9 : xs.length = 0 := by rw [hv9]; rfl
            clear hv9
            rw [hl9] at c9
            clear hl9
            rcases a with _ | ad9
            · have HO2 := Lib.hid (show wr.ownsRow w.heap.size 3 1 u6 (joinV xs ys 1).length (joinV xs ys 1) from by have h := HO.out; simp only [joinV] at h ⊢; simpa [HE.out] using h)
              go_wp2_with (at_builtin; refine Lib.wpList_append_run _ rfl _ _ _ _ rfl _ _ rfl rfl _ _ (run_none _ _ _ i0 1 Try.underlying23 hi _ _ _ HO.out _) ?_)
              clear HO
              go_wp2_with fail
              go_roundw
              case rel => exact ⟨1, by omega, by go_num, HO2.out, HBl.out⟩
              case measure => simp [intOf]
            · go_wp2_with (at_builtin; refine wpList_append_own _ rfl _ _ 23 rfl w.heap.size 3 i0 (.int .i64 0) 1 8 Try.underlying23 hi hz0 hz1 hz2 rfl (by decide) _ _ _ rfl HO.out ad9 0 c [] rfl rfl (fun j u h => by simp at h) (fun u h => by simp at h) (by unfold maxLen joinV; simp <;> omega) (by simp [joinV] <;> omega) (by omega) ?_; intro v' w2 hown' hgrow _)
              have HB2 := Lib.hid (HBl.out.grown hgrow (by omega) (fun g e => (HO.out.lt g e).1))
              have HO2 := Lib.hid (show w2.ownsRow w.heap.size 3 1 v' (joinV xs ys 1).length (joinV xs ys 1) from by simp only [joinV] at hown' ⊢; simpa [HE.out] using hown')
              clear hown' hgrow
              go_wp2_with fail
              go_roundw
              case rel => exact ⟨1, by omega, by go_num, HO2.out, HB2.out⟩
              case measure => simp [intOf]
          · subst hv9
            have HNW := Lib.hid hn9
            clear hn9
            go_wp2_with (at_builtin; refine wpList_append_own _ rfl _ _ 23 rfl w.heap.size 3 i0 (.int .i64 0) 1 8 Try.underlying23 hi hz0 hz1 hz2 rfl (by decide) _ _ _ rfl HO.out ⟨b9, o9, none⟩ xs.length c xs rfl (by simp) HNW.out HX1.out (by unfold maxLen joinV; simp; omega) (by simp [joinV]; omega) (by omega) ?_; intro v' w2 hown' hgrow _)
            have HB2 := Lib.hid (HBl.out.grown hgrow (by omega) (fun g e => (HO.out.lt g e).1))
            have HO2 := Lib.hid (show w2.ownsRow w.heap.size 3 1 v' (joinV xs ys 1).length (joinV xs ys 1) from by simpa [joinV] using hown')
            clear hown' hgrow
            go_wp2_with fail
            go_roundw
            case rel => exact ⟨1, by omega, by go_num, HO2.out, HB2.out⟩
            case measure => simp [intOf]
        · skip
          have c9 := cell_below hbel HC1.out hg
          have hv9 := HV1.out.below hbel
          have HO := Lib.hid hown
          have HBl := Lib.hid hbel
          have hsz := hbel.size
          clear hown hbel c0 c1
          rcases hv9 with hv9 | ⟨b9, o9, hv9, hb9, hn9⟩
          · have HE := Lib.hid hv9
            have hl9 : ys.length = 0 := by rw [hv9]; rfl
            clear hv9
            rw [hl9] at c9
            clear hl9
            rcases a' with _ | ad9
            · have HO2 := Lib.hid (show wr.ownsRow w.heap.size 3 1 u6 (joinV xs ys 2).length (joinV xs ys 2) from by have h := HO.out; simp only [joinV] at h ⊢; simpa [HE.out] using h)
              go_wp2_with (at_builtin; refine Lib.wpList_append_run _ rfl _ _ _ _ rfl _ _ rfl rfl _ _ (run_none _ _ _ i0 1 Try.underlying23 hi _ _ _ HO.out _) ?_)
              clear HO
              go_wp2_with fail
              go_roundw
              case rel => exact ⟨2, by omega, by go_num, HO2.out, HBl.out⟩
              case measure => simp [intOf]
            · go_wp2_with (at_builtin; refine wpList_append_own _ rfl _ _ 23 rfl w.heap.size 3 i0 (.int .i64 0) 1 8 Try.underlying23 hi hz0 hz1 hz2 rfl (by decide) _ _ _ rfl HO.out ad9 0 c' [] rfl rfl (fun j u h => by simp at h) (fun u h => by simp at h) (by unfold maxLen joinV; simp <;> omega) (by simp [joinV] <;> omega) (by omega) ?_; intro v' w2 hown' hgrow _)
              have HB2 := Lib.hid (HBl.out.grown hgrow (by omega) (fun g e => (HO.out.lt g e).1))
              have HO2 := Lib.hid (show w2.ownsRow w.heap.size 3 1 v' (joinV xs ys 2).length (joinV xs ys 2) from by simp only [joinV] at hown' ⊢; simpa [HE.out] using hown')
              clear hown' hgrow
              go_wp2_with fail
              go_roundw
              case rel => exact ⟨2, by omega, by go_num, HO2.out, HB2.out⟩
              case measure => simp [intOf]
          · subst hv9
            have HNW := Lib.hid hn9
            clear hn9
            go_wp2_with (at_builtin; refine wpList_append_own _ rfl _ _ 23 rfl w.heap.size 3 i0 (.int .i64 0) 1 8 Try.underlying23 hi hz0 hz1 hz2 rfl (by decide) _ _ _ rfl HO.out ⟨b9, o9, none⟩ ys.length c' ys rfl (by simp) HNW.out HY1.out (by unfold maxLen joinV; simp; omega) (by simp [joinV]; omega) (by omega) ?_; intro v' w2 hown' hgrow _)
            have HB2 := Lib.hid (HBl.out.grown hgrow (by omega) (fun g e => (HO.out.lt g e).1))
            have HO2 := Lib.hid (show w2.ownsRow w.heap.size 3 1 v' (joinV xs ys 2).length (joinV xs ys 2) from by simpa [joinV] using hown')
            clear hown' hgrow
            go_wp2_with fail
            go_roundw
            case rel => exact ⟨2, by omega, by go_num, HO2.out, HB2.out⟩
            case measure => simp [intOf]
        · have HF := Lib.hid (show ∃ v, Ending.returned u6 = .returned v ∧ wr.ownsRow w.heap.size 3 1 v (xs ++ ys).length (xs ++ ys) ∧ Below w.heap.size w wr from ⟨u6, rfl, by simpa [joinV] using hown, hbel⟩)
          clear hown hbel c0 c1
          go_wp2_with fail
          go_ret
          exact HF.out
end Go.Proofs.Ytkbcofgigfnfaab.concate
