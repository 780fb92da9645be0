/- Several texts in one. -/
import Derived.Lib.Hide
import Derived.LoopIn
import Derived.LoopNIn
import Derived.Maps.AppendAt
import Derived.OwnWalkIn
import Derived.RangeFuncBound
import Derived.RangeFuncBox
import Derived.RangeFuncCalls
import Derived.RangeFuncLeaves
import Derived.RangeFuncNested
import Derived.Shelf.Abstract
import Derived.Shelf.RegionOpen
import Derived.TacticsInMore
import Derived.WalkKit
import Derived.Test.YtoephhhofkmgjabSpG37
import Derived.Test.YtoephhhofkmgjabSpG34
import Derived.Test.YtoephhhofkmgjabSpG25
import Derived.Test.YtoephhhofkmgjabSpG31
namespace Go.Proofs.Ytoephhhofkmgjab.leasti
open Go Go.RowKit Go.Shelf own rangep cub cubat parts tab told bitw least5 wts
set_option linter.unusedVariables false
set_option linter.unusedSimpArgs false
attribute [local go_sem] Oper.semAt_some

theorem set_plane {w : World} {B : Nat} {v b v' b' : Value} {T : TypeId} (h : w.heap[B]? = some (.cells #[v, b] T)) : ((w.setCell ⟨B, 0, none⟩ v').setCell ⟨B, 1, none⟩ b').heap[B]? = some (.cells #[v', b'] T) := by
  obtain ⟨hlt, hk⟩ := Array.getElem?_eq_some_iff.1 h
  simp [World.setCell, Array.getElem?_modify, h]
theorem fro_old {w : World} (O : Obj) {b o : Nat} (hb : b < w.heap.size) (hx : w.frozen? ⟨b, o, none⟩ = false) : (w.alloc O).frozen? ⟨b, o, none⟩ = false := fro_below (below_alloc w O) hx hb
theorem bs_empty {n : Nat} {zs : List Int} {rows : List (List Int)} {k : Nat} (h : (bs n zs rows k).2 = false) : (bs n zs rows k).1 = [] := by
  induction k with
  | zero => rfl
  | succ k ih =>
    rw [bs] at h ⊢
    split at h
    · next c => rw [c.1] at h; cases h
    · next c =>
      rw [if_neg c]
      split at h
      · cases h
      · next c2 => rw [if_neg c2]; exact ih h
/-- The bound of the best weights so far. -/
def bv (n : Nat) (zs : List Int) (k : Nat) : Int := if (bs n zs (wts n) k).2 = true then tie.bd n zs (bs n zs (wts n) k).1 else 0
theorem lists3 (d n : Nat) (w : World) :
    CallsIn Fence.wide d Try.prog 83 #[.agg #[.int .i64 n, .int .i64 3]] w fun e w' => e = .returned (.func (.func 115) #[] #[.pointer (some ⟨w.heap.size, 0, none⟩)]) ∧ w' = w.alloc (.cells #[.int .i64 n, .int .i64 3] 100) := lists.lists_in d n 3 w
theorem walk {F : Fence} {n : Nat} {P : Program} {md : Region.Mode} {ops : Array Oper} {Q : Exit → Act → World → Prop} {k : Nat} {listed : Array Bool} {a : Act} {w : World} (h : ∀ G : Nat → Array Bool → Act → World → Prop, G = wpAnyIn F n P md ops Q → G k listed a w) : wpAnyIn F n P md ops Q k listed a w := h _ rfl
theorem ownI_own {lo : Nat} {X Y : World} {row : Option Nat} {v : Value} {zs : List Int} (h : OwnI lo X.heap.size X v zs) (hg : X.grownBy Y row) (hr : ∀ r, row = some r → ∃ o : Obj, X.heap[r]? = some o ∧ o.isCells = false) : OwnI lo Y.heap.size Y v zs :=
  ⟨row_own lo _ 1 v (fun _ : Unit => zs.length) (fun _ => zs.map (Value.int .i64)) () X Y row h.1 hg hr, fun g hg' => Nat.lt_of_lt_of_le (h.2 g hg') hg.size⟩
theorem but_of_below {g B : Nat} {W W' : World} (h : Below W.heap.size W W') : But g B W W' := ⟨h.os, h.tape, h.output, h.size, fun k hk _ _ => h.block k hk⟩
theorem own_below {lo : Nat} {X Y : World} {v : Value} {zs : List Int} (h : OwnI lo X.heap.size X v zs) (hb : Below X.heap.size X Y) : OwnI lo Y.heap.size Y v zs := (h.block (fun g hg => hb.block g (h.lt hg).2.2)).mono (Nat.le_refl _) hb.size
theorem kp_but {B n : Nat} {W V : World} (h : But (B + 1) B W V) (hb : B + 1 + 1 < W.heap.size) : lists.Kp (B + 1 + 1) n 3 W V := ⟨fun x => ⟨h.cell x.1.1 hb (by omega) (by omega), h.cell x.1.2 hb (by omega) (by omega)⟩, h.2.2.2.1⟩
/-- What the two boxes hold after some weights. -/
def Best (n lo : Nat) (zs : List Int) (Bp Bf : Nat) (k : Nat) (W : World) : Prop :=
  ∃ v, W.heap[Bp]? = some (.cells #[v, .int .i64 (bv n zs k)] 46) ∧ Boxed W Bf 4 (.bool (bs n zs (wts n) k).2) ∧
    ((bs n zs (wts n) k).2 = false ∧ v = .slice none 0 0 ∨ (bs n zs (wts n) k).2 = true ∧ OwnI lo W.heap.size W v (bs n zs (wts n) k).1)

theorem best_keep {n lo Bp Bf k : Nat} {zs : List Int} {W V : World} (hb : Best n lo zs Bp Bf k W) (he : bs n zs (wts n) (k + 1) = bs n zs (wts n) k) (hB : Below W.heap.size W V) (h1 : Bp < W.heap.size) (h2 : Bf < W.heap.size) : Best n lo zs Bp Bf (k + 1) V := by
  obtain ⟨v, a, b, c⟩ := hb
  refine ⟨v, ?_, ?_, ?_⟩
  · unfold bv at a ⊢; rw [he]; exact (hB.block _ h1).trans a
  · rw [he]; exact (hB.block _ h2).trans b
  · rw [he]; exact c.elim .inl (fun h => .inr ⟨h.1, own_below h.2 hB⟩)
theorem best_new {n lo Bp Bf k : Nat} {zs xs : List Int} {W wb : World} {v b xv : Value} (hs : bs n zs (wts n) (k + 1) = (xs, true)) (hB : Below W.heap.size W wb) (hne : Bf ≠ Bp) (hp : wb.heap[Bp]? = some (.cells #[v, b] 46)) {u : Value} (hf : Boxed wb Bf 4 u) (ho : OwnI lo W.heap.size W xv xs) (h1 : Bp < lo) (h2 : Bf < lo) :
    Best n lo zs Bp Bf (k + 1) (((wb.setCell ⟨Bp, 0, none⟩ xv).setCell ⟨Bp, 1, none⟩ (.int .i64 (tie.bd n zs xs))).setCell ⟨Bf, 0, none⟩ (.bool true)) := by
  refine ⟨xv, ?_, ?_, .inr ⟨by rw [hs], ?_⟩⟩
  · have e : bv n zs (k + 1) = tie.bd n zs xs := by unfold bv; rw [hs]; rfl
    rw [e]
    exact (Below.heap_setCell _ _ _ _ (show Bp ≠ Bf from fun h => hne h.symm)).trans (set_plane hp)
  · rw [hs]
    have : Boxed ((wb.setCell ⟨Bp, 0, none⟩ xv).setCell ⟨Bp, 1, none⟩ (.int .i64 (tie.bd n zs xs))) Bf 4 u := (Below.heap_setCell _ _ _ _ (show Bf ≠ Bp from hne)).trans ((Below.heap_setCell _ _ _ _ (show Bf ≠ Bp from hne)).trans hf)
    exact this.set _
  · rw [hs]
    have h9 := own_below ho hB
    refine (h9.block fun g hg => ?_).mono (Nat.le_refl _) (by simp [World.setCell])
    have hg' := (h9.lt hg).1
    exact (Below.heap_setCell _ _ _ _ (show g ≠ Bf by omega)).trans ((Below.heap_setCell _ _ _ _ (show g ≠ Bp by omega)).trans (Below.heap_setCell _ _ _ _ (show g ≠ Bp by omega)))
set_option maxRecDepth 100000 in
set_option maxHeartbeats 4000000 in
theorem least_in (d : Nat) (hd : 8 ≤ d) (n : Nat) (a : Option Addr) (zs : List Int) (c : Nat) (w : World) (hr : ints.Reads .i64 w a zs) (hk : tabB n zs = true) (h1 : 1 ≤ n)
    (HI : Hid (∀ W, Below w.heap.size w W → Calls Try.prog 41 #[.int .i64 n, .slice a zs.length c] W (RetBB (bs n zs (wts n) (wts n).length).2 true W))) :
    CallsIn Fence.wide d Try.prog 47 #[.int .i64 n, .slice a zs.length c] w fun e W' => ∃ v, e = .returned (.tuple #[.agg #[v, .int .i64 (bv n zs (wts n).length)], .bool (bs n zs (wts n) (wts n).length).2]) ∧ OwnI w.heap.size W'.heap.size W' v (bs n zs (wts n) (wts n).length).1 ∧ Below w.heap.size w W' := by
  have hn1 : 1 ≤ d := by omega
  obtain ⟨m0, he, h4, hpw, h16, hrg⟩ := tab_nat hk
  obtain rfl : n = m0 := by omega
  have HT := Lib.hid (fun (W : World) (hb : Below w.heap.size w W) => tablesample.impl_yes n a zs c W (hr.below hb) h1 h4 h16 hrg (Lib.hid (fun wa hra => tab.impl_tab n a zs c wa hra true (Lib.hid hk))))
  have HK := Lib.hid hk
  clear hr hk hpw hrg he
  have k0 : (0 : Int) ≤ (n : Int) := by omega
  have k1 : (n : Int) ≤ 4 := by omega
  refine callsIn_of_wp_marks Try.func47 rfl trivial ?_ rfl
  simp only [Try.ntmps47, List.size_toArray, List.length_cons, List.length_nil, Nat.reduceAdd, Nat.reduceSub, Array.replicate_succ, Array.replicate_zero, List.push_toArray, List.append_toArray, List.nil_append, List.cons_append]
  gi_wp2
  refine ⟨trivial, ?_⟩
  refine (callsIn_wide.2 (HT.out _ (below_alloc w _))).mono ?_
  rintro e w1 ⟨p1, l1, rfl, hos, hb1⟩
  obtain ⟨pa, pc, rfl, hgr, _, _⟩ := hos.grid.slice
  obtain ⟨la, lc, rfl, hlr, _, _⟩ := hos.ints.slice
  rw [toldR_length, tie.told_len]
  have HG1 := Lib.hid hgr
  have HL1 := Lib.hid hlr
  have bR1 : w1.heap[w.heap.size]? = some (.cells #[.slice none 0 0, .int .i64 0] 46) := (hb1.block _ (by simp)).trans (World.alloc_heap_new w _)
  have HR1 := Lib.hid bR1
  have HB1 := Lib.hid ((below_alloc w (.cells #[.slice none 0 0, .int .i64 0] 46)).trans (hb1.mono (by simp)))
  have hs1 : w.heap.size + 1 ≤ w1.heap.size := by have := hb1.size; rwa [World.size_alloc] at this
  clear hos hgr hlr bR1 hb1
  gi_wp2
  have bS1 := World.alloc_heap_new w1 (.cells #[.slice pa zs.length pc, .slice la zs.length lc] 56)
  have HBa := Lib.hid (below_alloc w1 (.cells #[.slice pa zs.length pc, .slice la zs.length lc] 56))
  have hsa : (w1.alloc (.cells #[.slice pa zs.length pc, .slice la zs.length lc] 56)).heap.size = w1.heap.size + 1 := by simp
  obtain ⟨wa, hwa⟩ : ∃ wa : World, wa = w1.alloc (.cells #[.slice pa zs.length pc, .slice la zs.length lc] 56) := ⟨_, rfl⟩
  rw [← hwa] at bS1 HBa hsa ⊢
  clear hwa
  refine ⟨trivial, ?_⟩
  refine (callsIn_wide.2 (HI.out wa (HB1.out.trans (HBa.out.mono HB1.out.size)))).mono ?_
  rintro e w2 ⟨rfl, hb2⟩
  have HR2 := Lib.hid ((hb2.block _ (by omega)).trans ((HBa.out.block _ (by omega)).trans HR1.out))
  have HS2 := Lib.hid ((hb2.block _ (by omega)).trans bS1)
  have HB12 := Lib.hid (HBa.out.trans (hb2.mono HBa.out.size))
  have HB2 := Lib.hid (HB1.out.trans (HB12.out.mono HB1.out.size))
  have HG2 := Lib.hid (HG1.out.below HB12.out)
  have HL2 := Lib.hid (HL1.out.below HB12.out)
  have hs2 : w1.heap.size + 1 ≤ w2.heap.size := by have := hb2.size; omega
  clear bS1 hb2 HG1 HL1 HR1 HBa HB12
  obtain ⟨ok, hok⟩ : ∃ ok, ok = (bs n zs (wts n) (wts n).length).2 := ⟨_, rfl⟩
  rw [← hok]
  have HOK := Lib.hid hok.symm
  clear hok
  have fR : ∀ i, w2.frozen? ⟨w.heap.size, i, none⟩ = false := fun i => by simp [World.frozen?, HR2.out]
  have cR0 : w2.cell? ⟨w.heap.size, 0, none⟩ = some (.slice none 0 0) := by simp [World.cell?, HR2.out]
  have cR1 : w2.cell? ⟨w.heap.size, 1, none⟩ = some (.int .i64 0) := by simp [World.cell?, HR2.out]
  have fR0 := fR 0
  have fR1 := fR 1
  clear fR
  have hb0 : w2.heap.size + 1 = w2.heap.size + 1 := rfl
  have e0 : ((w2.alloc (.cells #[.slice none 0 0, .int .i64 0] 46)).alloc (.cells #[.bool false] 4)).frozen? ⟨w2.heap.size, 0, none⟩ = false := fro_old _ (by simp) (fro_new _ _ _ rfl)
  have e1 : ((w2.alloc (.cells #[.slice none 0 0, .int .i64 0] 46)).alloc (.cells #[.bool false] 4)).frozen? ⟨w2.heap.size, 1, none⟩ = false := fro_old _ (by simp) (fro_new _ _ _ rfl)
  have e2 : ((w2.alloc (.cells #[.slice none 0 0, .int .i64 0] 46)).alloc (.cells #[.bool false] 4)).frozen? ⟨w2.heap.size + 1, 0, none⟩ = false := fro_new _ _ _ (by simp)
  have e3 : ((w2.alloc (.cells #[.slice none 0 0, .int .i64 0] 46)).alloc (.cells #[.bool false] 4)).cell? ⟨w2.heap.size, 0, none⟩ = some (.slice none 0 0) := cell_old _ (cell_new _ _ _ rfl rfl)
  have e4 : ((w2.alloc (.cells #[.slice none 0 0, .int .i64 0] 46)).alloc (.cells #[.bool false] 4)).cell? ⟨w2.heap.size, 1, none⟩ = some (.int .i64 0) := cell_old _ (cell_new _ _ _ rfl rfl)
  have e5 : ((w2.alloc (.cells #[.slice none 0 0, .int .i64 0] 46)).alloc (.cells #[.bool false] 4)).cell? ⟨w2.heap.size + 1, 0, none⟩ = some (.bool false) := cell_new _ _ _ (by simp) rfl
  cases ok
  · clear e0 e1 e2 e3 e4 e5
    gi_wp2
    have hp := set_plane (v' := .slice none 0 0) (b' := .int .i64 0) HR2.out
    have q0 : ((w2.setCell ⟨w.heap.size, 0, none⟩ (.slice none 0 0)).setCell ⟨w.heap.size, 1, none⟩ (.int .i64 0)).cell? ⟨w.heap.size, 0, none⟩ = some (.slice none 0 0) := by simp [World.cell?, hp]
    have q1 : ((w2.setCell ⟨w.heap.size, 0, none⟩ (.slice none 0 0)).setCell ⟨w.heap.size, 1, none⟩ (.int .i64 0)).cell? ⟨w.heap.size, 1, none⟩ = some (.int .i64 0) := by simp [World.cell?, hp]
    refine ⟨.tuple #[.agg #[.slice none 0 0, .int .i64 0], .bool false], by simp [results, Try.results47, go_sem, q0, q1], .slice none 0 0, ?_, ?_, ?_⟩
    · rw [show bv n zs (wts n).length = 0 by unfold bv; rw [HOK.out]; rfl, HOK.out]
    · rw [bs_empty HOK.out]; exact OwnI.nil _ _ _
    · exact (HB2.out.setCell (Nat.le_refl _) _).setCell (Nat.le_refl _) _
  · clear fR0 fR1 cR0 cR1
    gi_wp2_with (refine ⟨trivial, ?_⟩; gi_at_call 83; refine (lists3 (d - 1) n _).mono ?_; rintro e w' ⟨rfl, rfl⟩)
    have hbf : ∀ {k}, k < w2.heap.size → ((((w2.alloc (.cells #[.slice none 0 0, .int .i64 0] 46)).alloc (.cells #[.bool false] 4)).alloc (.cells #[.int .i64 n, .int .i64 3] 100)).heap[k]? = w2.heap[k]?) := fun h => ((((Below.refl _ w2).alloc (Nat.le_refl _) _).alloc (by simp) _).alloc (by simp; omega) _).block _ h
    obtain ⟨wl, hwl⟩ : ∃ wl : World, wl = ((w2.alloc (.cells #[.slice none 0 0, .int .i64 0] 46)).alloc (.cells #[.bool false] 4)).alloc (.cells #[.int .i64 n, .int .i64 3] 100) := ⟨_, rfl⟩
    rw [← hwl] at hbf
    have hsl : wl.heap.size = w2.heap.size + 3 := by rw [hwl]; simp
    have hB2 : Below w2.heap.size w2 wl := by rw [hwl]; exact (((Below.refl _ w2).alloc (Nat.le_refl _) _).alloc (by simp) _).alloc (by simp; omega) _
    have bP : wl.heap[w2.heap.size]? = some (.cells #[.slice none 0 0, .int .i64 0] 46) := by
      rw [hwl, Below.heap_alloc _ _ _ (by simp; omega), Below.heap_alloc _ _ _ (by simp)]; exact World.alloc_heap_new w2 _
    have bF : Boxed wl (w2.heap.size + 1) 4 (.bool false) := by
      rw [hwl]
      have := (Boxed.new (w2.alloc (.cells #[.slice none 0 0, .int .i64 0] 46)) 4 (.bool false)).alloc (.cells #[.int .i64 n, .int .i64 3] 100)
      rwa [World.size_alloc] at this
    have bC : lists.Cb (w2.heap.size + 1 + 1) n 3 wl := by
      rw [hwl]
      exact ⟨cell_new _ _ _ (by simp) rfl, cell_new _ _ _ (by simp) rfl⟩
    rw [← hwl]
    clear hwl e0 e1 e2 e3 e4 e5 hbf
    have HBL := Lib.hid (HB2.out.trans (hB2.mono HB2.out.size))
    have HGL := Lib.hid (HG2.out.below hB2)
    have HLL := Lib.hid (HL2.out.below hB2)
    have HSL := Lib.hid ((hB2.block _ (by omega)).trans HS2.out)
    have HRL := Lib.hid ((hB2.block _ (by omega)).trans HR2.out)
    have HBC := Lib.hid bC
    have HB0 := Lib.hid (show Best n wl.heap.size zs w2.heap.size (w2.heap.size + 1) 0 wl from ⟨_, bP, bF, .inl ⟨rfl, rfl⟩⟩)
    have HB2L := Lib.hid hB2
    clear hB2 bP bF bC HS2 HR2
    refine range_p (F := Fence.wide) rfl hn1 (gf := 115) (lb := #[.pointer (some ⟨w2.heap.size + 1 + 1, 0, none⟩)]) rfl trivial (enters_of Try.func115 (by kernel_rfl) rfl)
      (lists.seq (d - 1) (by omega) (w2.heap.size + 1 + 1) wl.heap.size n 3 (by omega) (by decide) (Nat.le_trans (pow7 h4) (by decide)) wl (Nat.le_refl _) HBC.out) lists.kp_t lists.kp_b (Below.refl _ _) (fun _ => rfl)
      (fun pre W => Best n wl.heap.size zs w2.heap.size (w2.heap.size + 1) pre.length W ∧ But (w2.heap.size + 1) w2.heap.size wl W)
      (fun _ _ _ => False)
      (OwnFrom.and (fun s X Y row hs hg hr => by
        obtain ⟨v, e1, e2, e3⟩ := hs
        have hr' : ∀ r, row = some r → ∃ o : Obj, X.heap[r]? = some o ∧ o.isCells = false := fun r e => (hr r e).2
        exact ⟨v, (grownBy_keeps_cells hg hr' e1 rfl).trans e1, (grownBy_keeps_cells hg hr' e2 rfl).trans e2, e3.elim .inl (fun h => .inr ⟨h.1, ownI_own h.2 hg hr'⟩)⟩) (ownFrom_but (Nat.le_refl _)))
      (fun _ _ _ _ _ h _ _ => h)
      ⟨HB0.out, But.refl _ _ _⟩
      (fun pre x s X Y row h hg hr => ⟨h.1, h.2.1, ownI_own h.2.2 hg (fun r e => (hr r e).2)⟩)
      (fun x => { tmps := #[.int .i64 n, .slice a zs.length c, undef, undef, .pointer (some ⟨w.heap.size, 0, none⟩), .bool false, .pointer (some ⟨w1.heap.size, 0, none⟩), .bool true, .bool true, .bool true, .pointer (some ⟨w2.heap.size, 0, none⟩), .pointer (some ⟨w2.heap.size + 1, 0, none⟩), x.1, undef, undef, .tuple #[.agg #[.slice pa zs.length pc, .slice la zs.length lc], .bool true], .int .i64 n, .slice a zs.length c, .tuple #[.agg #[.slice pa zs.length pc, .slice la zs.length lc], .bool true], .agg #[.slice pa zs.length pc, .slice la zs.length lc], .bool true, .tuple #[.bool true, .bool true], .int .i64 n, .slice a zs.length c, .tuple #[.bool true, .bool true], .bool true, .bool true, .bool true, .bool false, .bool false, .bool true, .bool false, .bool false, undef, .agg #[.slice none 0 0, .int .i64 0], .int .i64 n, .agg #[.int .i64 n, .int .i64 3], .func (.func 115) #[] #[.pointer (some ⟨w2.heap.size + 1 + 1, 0, none⟩)], x.1, undef, undef, undef, undef, undef, undef, undef, undef, undef, undef, undef, undef, undef, undef, undef, undef, undef, undef, undef, undef, undef], defers := [] })
      ?assign ?body ?done ?stop
    case assign =>
      rintro l x W K hK
      dsimp only [lists.encs]
      gi_wp2
      exact hK
    case stop =>
      rintro D c' pre W hD _ hF _
      exact hF.elim
    case done =>
      rintro D ys W hD hlen ⟨hbest, hbut⟩ hk
      have hlen2 : ys.length = (wts n).length := (show ys.length = 7 ^ n from hlen).trans (wts_length n).symm
      rw [hlen2] at hbest
      obtain ⟨v, hB, hF, hor⟩ := hbest
      rw [HOK.out] at hF
      have hov : OwnI wl.heap.size W.heap.size W v (bs n zs (wts n) (wts n).length).1 := by
        rcases hor with ⟨h, _⟩ | ⟨_, h⟩
        · rw [HOK.out] at h; cases h
        · exact h
      obtain ⟨vp, vq, rfl, _, _, _⟩ := hov.slice
      have hR := (hbut.2.2.2.2 w.heap.size (by omega) (by omega) (by omega)).trans HRL.out
      have hmx : Try.prog.follows .mixedOrders = true := by kernel_rfl
      have cB0 : W.cell? ⟨w2.heap.size, 0, none⟩ = some (.slice vp (bs n zs (wts n) (wts n).length).1.length vq) := by simp [World.cell?, hB]
      have cB1 : W.cell? ⟨w2.heap.size, 1, none⟩ = some (.int .i64 (bv n zs (wts n).length)) := by simp [World.cell?, hB]
      have cF := hF.cell
      have fR0 : W.frozen? ⟨w.heap.size, 0, none⟩ = false := by simp [World.frozen?, hR]
      have fR1 : W.frozen? ⟨w.heap.size, 1, none⟩ = false := by simp [World.frozen?, hR]
      have cR0 : W.cell? ⟨w.heap.size, 0, none⟩ = some (.slice none 0 0) := by simp [World.cell?, hR]
      have cR1 : W.cell? ⟨w.heap.size, 1, none⟩ = some (.int .i64 0) := by simp [World.cell?, hR]
      have HOV := Lib.hid hov
      have HR := Lib.hid hR
      have HK9 := Lib.hid hk
      have HBU := Lib.hid hbut
      have hsW : wl.heap.size ≤ W.heap.size := hbut.2.2.2.1
      clear hor hB hF hov hR hk hbut hlen hlen2
      gi_wp2
      gi_region_o
      gi_wp2
      have hp := set_plane (v' := .slice vp (bs n zs (wts n) (wts n).length).1.length vq) (b' := .int .i64 (bv n zs (wts n).length)) HR.out
      have hne : D ≠ w.heap.size := by omega
      obtain ⟨V, hV⟩ : ∃ V : World, V = (((W.setCell ⟨w.heap.size, 0, none⟩ (.slice vp (bs n zs (wts n) (wts n).length).1.length vq)).setCell ⟨w.heap.size, 1, none⟩ (.int .i64 (bv n zs (wts n).length)))).drew := ⟨_, rfl⟩
      have hKV : V.heap[D]? = some (.deferred (some [])) := by rw [hV]; exact (Below.heap_setCell _ _ _ _ (show D ≠ w.heap.size from hne)).trans ((Below.heap_setCell _ _ _ _ (show D ≠ w.heap.size from hne)).trans HK9.out)
      have hpV : V.heap[w.heap.size]? = some (.cells #[.slice vp (bs n zs (wts n) (wts n).length).1.length vq, .int .i64 (bv n zs (wts n).length)] 46) := by rw [hV]; exact hp
      have hOV : OwnI wl.heap.size V.heap.size V (.slice vp (bs n zs (wts n) (wts n).length).1.length vq) (bs n zs (wts n) (wts n).length).1 := by
        refine (HOV.out.block (fun g hg => ?_)).mono (Nat.le_refl _) (by rw [hV]; simp [World.setCell, World.drew])
        have hg' := (HOV.out.lt hg).1
        rw [hV]
        exact (Below.heap_setCell _ _ _ _ (show g ≠ w.heap.size by omega)).trans (Below.heap_setCell _ _ _ _ (show g ≠ w.heap.size by omega))
      have hBV : Below w.heap.size w V := by
        rw [hV]
        exact ((((HBL.out.trans (HBU.out.below (by omega) (by omega) (by omega))).setCell (Nat.le_refl _) _).setCell (Nat.le_refl _) _)).drew
      rw [← hV]
      clear hV hp
      refine ⟨by simp, .inl ⟨_, _, rfl, run_takeDeferred hKV, ?_⟩⟩
      have h9 : (V.putObj D (.deferred none)).heap[w.heap.size]? = some (.cells #[.slice vp (bs n zs (wts n) (wts n).length).1.length vq, .int .i64 (bv n zs (wts n).length)] 46) := (World.putObj_heap_other (by omega)).trans hpV
      have q0 : (V.putObj D (.deferred none)).cell? ⟨w.heap.size, 0, none⟩ = some (.slice vp (bs n zs (wts n) (wts n).length).1.length vq) := by simp [World.cell?, h9]
      have q1 : (V.putObj D (.deferred none)).cell? ⟨w.heap.size, 1, none⟩ = some (.int .i64 (bv n zs (wts n).length)) := by simp [World.cell?, h9]
      refine ⟨.tuple #[.agg #[.slice vp (bs n zs (wts n) (wts n).length).1.length vq, .int .i64 (bv n zs (wts n).length)], .bool true], by simp [results, Try.results47, go_sem, q0, q1], .slice vp (bs n zs (wts n) (wts n).length).1.length vq, by rw [HOK.out], ?_, ?_⟩
      · exact (ownI_own hOV (grownBy_putObj' _ D _) (fun r e => by cases e; exact ⟨_, hKV, rfl⟩)).mono (by have := HBL.out.size; omega) (Nat.le_refl _)
      · exact hBV.trans (belowK_b (w := w) (Nat.le_refl _) V D _ _ (by have := HBL.out.size; omega) hKV rfl rfl)
    case body =>
      rintro l pre ⟨xv, xs⟩ W ⟨⟨v, hB, hF, hor⟩, hbut⟩ ⟨hlt, hx, hox⟩
      have hlt' : pre.length < 7 ^ n := hlt
      have hx' : (wts n).getD pre.length [] = xs := (wts_at n _ hlt').trans (Eq.symm hx)
      have hmem : xs ∈ wts n := by rw [← hx', List.getD_eq_getElem?_getD, List.getElem?_eq_getElem (by rw [wts_length]; exact hlt')]; exact List.getElem_mem _
      have hxl := (wts_row hmem).1
      have hx4 : xs.length ≤ 4 := by omega
      have hW3 := w3_row hmem
      have hox : OwnI wl.heap.size W.heap.size W xv xs := hox
      obtain ⟨xp, xq, rfl, hxr, _, _⟩ := hox.slice
      have HOX := Lib.hid hox
      have HX := Lib.hid hx'
      have hsW : wl.heap.size ≤ W.heap.size := hbut.2.2.2.1
      have hsm := (hbut.2.2.2.2 w1.heap.size (by omega) (by omega) (by omega)).trans HSL.out
      have s0 : W.cell? ⟨w1.heap.size, 0, none⟩ = some (.slice pa zs.length pc) := by simp [World.cell?, hsm]
      have s1 : W.cell? ⟨w1.heap.size, 1, none⟩ = some (.slice la zs.length lc) := by simp [World.cell?, hsm]
      have hB9 : Below w2.heap.size wl W := hbut.below (by omega) (by omega) (Nat.le_refl _)
      have hB29 := HB2L.out.trans hB9
      have hgW := HG2.out.below hB29
      have hlW := HL2.out.below hB29
      have HTE := tie.tie_end HK.out hxl hW3
      have HBD0 := Lib.hid (fun (W' : World) (hb : Below W.heap.size W W') => boundw.impl_bound pa (toldR n zs.length) pc la (toldL zs zs.length) lc xp xs xq W' (hgW.below hb) (hlW.below hb) (hxr.below hb) (by rw [tie.told_len, toldR_length]) (by rw [toldR_length]; exact h16) (by omega) (tie.told_fits hxl hW3) (tie.told_dots HK.out hxl hW3) (tie.told_sample HK.out h1) (fun _ => HTE.2.2.1))
      rw [toldR_length, tie.told_len, HTE.1] at HBD0
      have HBN := Lib.hid HTE.2.1
      have HZX := Lib.hid (fun (W' : World) (hb : Below W.heap.size W W') => sizei.impl_size xp xs xq W' (hxr.below hb) hx4 hW3)
      obtain ⟨P0, hP0⟩ : ∃ P0, P0 = partsB n zs xs := ⟨_, rfl⟩
      rw [← hP0] at HBD0
      have HBD := HBD0
      have HP0 := Lib.hid hP0.symm
      have hd1 : 1 ≤ d - 1 - 1 := by omega
      clear HBD0 hP0 HTE hgW hlW hB29 hB9 hxr hox hxl
      have HBEST := Lib.hid (show Best n wl.heap.size zs w2.heap.size (w2.heap.size + 1) pre.length W from ⟨v, hB, hF, hor⟩)
      have HBU := Lib.hid hbut
      have HPB := Lib.hid hB
      have HLEN := Lib.hid (show (pre ++ [(Value.slice xp xs.length xq, xs)]).length = pre.length + 1 by simp)
      have hmx : Try.prog.follows .mixedOrders = true := by kernel_rfl
      have cF := hF.cell
      have HPF := Lib.hid hF
      clear hbut hmem hx' hx hlt hsm hB hF
      rcases hor with ⟨hf, rfl⟩ | ⟨hf, hov⟩
      · rw [hf] at cF HPF
        have HF := Lib.hid hf
        clear hf hW3
        dsimp only
        gi_wp2
        refine wpIn_region_any (by assumption) ?_
        refine walk fun G hG => ?_
        have H012345678_ : ∀ W' : World, Below W.heap.size W W' → G 0 #[true, true, true, true, true, true, true, true, true] { tmps := #[.int .i64 n, .slice a zs.length c, undef, undef, .pointer (some ⟨w.heap.size, 0, none⟩), .bool false, .pointer (some ⟨w1.heap.size, 0, none⟩), .bool true, .bool true, .bool true, .pointer (some ⟨w2.heap.size, 0, none⟩), .pointer (some ⟨w2.heap.size + 1, 0, none⟩), .slice xp xs.length xq, undef, undef, .tuple #[.agg #[.slice pa zs.length pc, .slice la zs.length lc], .bool true], .int .i64 n, .slice a zs.length c, .tuple #[.agg #[.slice pa zs.length pc, .slice la zs.length lc], .bool true], .agg #[.slice pa zs.length pc, .slice la zs.length lc], .bool true, .tuple #[.bool true, .bool true], .int .i64 n, .slice a zs.length c, .tuple #[.bool true, .bool true], .bool true, .bool true, .bool true, .bool false, .bool false, .bool true, .bool false, .bool false, undef, .agg #[.slice none 0 0, .int .i64 0], .int .i64 n, .agg #[.int .i64 n, .int .i64 3], .func (.func 115) #[] #[.pointer (some ⟨w2.heap.size + 1 + 1, 0, none⟩)], .slice xp xs.length xq, .bool false, .bool false, undef, undef, undef, undef, undef, undef, .bool false, undef, undef, undef, undef, undef, undef, undef, undef, undef, undef, undef, undef], defers := [] } W' := by
          intro W' hW'
          rw [hG]
          refine wpAnyIn_done (by kernel_rfl) ?_ _
          have s0' := cell_below hW' s0 (by omega)
          have s1' := cell_below hW' s1 (by omega)
          clear hG
          gi_wp2
          refine ⟨trivial, ?_⟩
          refine (CallsIn.inRound l (callsIn_wide.2 (HBD.out W' hW'))).mono ?_
          rintro e wb ⟨rfl, hbb⟩
          have hWb := hW'.trans (hbb.mono hW'.size)
          have hpB := (hWb.block _ (by omega)).trans HPB.out
          have hpF := boxed_below HPF.out hWb (by omega)
          have fB0 : wb.frozen? ⟨w2.heap.size, 0, none⟩ = false := by simp [World.frozen?, hpB]
          have fB1 : wb.frozen? ⟨w2.heap.size, 1, none⟩ = false := by simp [World.frozen?, hpB]
          have cB0 : wb.cell? ⟨w2.heap.size, 0, none⟩ = some (.slice none 0 0) := by simp [World.cell?, hpB]
          have cB1 : wb.cell? ⟨w2.heap.size, 1, none⟩ = some (.int .i64 (bv n zs pre.length)) := by simp [World.cell?, hpB]
          have fF0 := hpF.frozen
          have cF0 := hpF.cell
          have HWB := Lib.hid hWb
          have HpB := Lib.hid hpB
          have HpF := Lib.hid hpF
          clear hbb hWb hpB hpF s0' s1'
          cases P0
          · gi_wp2
            have hbu := but_of_below (g := w2.heap.size + 1) (B := w2.heap.size) HWB.out
            refine ⟨hbu.keepsFrom (by omega) (by omega), kp_but hbu (by omega), ?_, HBU.out.trans hbu⟩
            rw [HLEN.out]
            exact best_keep HBEST.out (bs_no (by rw [HX.out]; exact HP0.out)) HWB.out (by omega) (by omega)
          · gi_wp2
            have hbu := but_of_below (g := w2.heap.size + 1) (B := w2.heap.size) HWB.out
            have hbu3 := but_set (u := 0) (v := .bool true) (but_set (u := 1) (v := .int .i64 (tie.bd n zs xs)) (but_set (u := 0) (v := .slice xp xs.length xq) hbu (.inr rfl)) (.inr rfl)) (.inl rfl)
            rw [HBN.out HP0.out]
            refine ⟨hbu3.keepsFrom (by omega) (by omega), kp_but hbu3 (by omega), ?_, HBU.out.trans hbu3⟩
            rw [HLEN.out]
            exact best_new ((bs_take (by rw [HF.out]; simp) (by rw [HX.out]; exact HP0.out)).trans (by rw [HX.out])) HWB.out (by omega) HpB.out HpF.out HOX.out (by omega) (by omega)
        have H01234567_ : ∀ W' : World, Below W.heap.size W W' → G 1 #[true, true, true, true, true, true, true, true, false] { tmps := #[.int .i64 n, .slice a zs.length c, undef, undef, .pointer (some ⟨w.heap.size, 0, none⟩), .bool false, .pointer (some ⟨w1.heap.size, 0, none⟩), .bool true, .bool true, .bool true, .pointer (some ⟨w2.heap.size, 0, none⟩), .pointer (some ⟨w2.heap.size + 1, 0, none⟩), .slice xp xs.length xq, undef, undef, .tuple #[.agg #[.slice pa zs.length pc, .slice la zs.length lc], .bool true], .int .i64 n, .slice a zs.length c, .tuple #[.agg #[.slice pa zs.length pc, .slice la zs.length lc], .bool true], .agg #[.slice pa zs.length pc, .slice la zs.length lc], .bool true, .tuple #[.bool true, .bool true], .int .i64 n, .slice a zs.length c, .tuple #[.bool true, .bool true], .bool true, .bool true, .bool true, .bool false, .bool false, .bool true, .bool false, .bool false, undef, .agg #[.slice none 0 0, .int .i64 0], .int .i64 n, .agg #[.int .i64 n, .int .i64 3], .func (.func 115) #[] #[.pointer (some ⟨w2.heap.size + 1 + 1, 0, none⟩)], .slice xp xs.length xq, .bool false, .bool false, undef, undef, undef, undef, undef, undef, undef, undef, undef, undef, undef, undef, undef, undef, undef, undef, undef, undef, undef], defers := [] } W' := by
          intro W' hW'
          rw [hG]
          refine wpAnyIn_ready (rs := [8]) (by kernel_rfl) (by simp) ?_
          refine AllReadyIn.cons rfl (fun K hK => ?_) ?_
          · go_simp
            refine hK _ _ ?_
            rw [← hG]
            exact H012345678_ _ hW'
          exact AllReadyIn.nil
        have H0123456_ : ∀ W' : World, Below W.heap.size W W' → G 2 #[true, true, true, true, true, true, true, false, false] { tmps := #[.int .i64 n, .slice a zs.length c, undef, undef, .pointer (some ⟨w.heap.size, 0, none⟩), .bool false, .pointer (some ⟨w1.heap.size, 0, none⟩), .bool true, .bool true, .bool true, .pointer (some ⟨w2.heap.size, 0, none⟩), .pointer (some ⟨w2.heap.size + 1, 0, none⟩), .slice xp xs.length xq, undef, undef, .tuple #[.agg #[.slice pa zs.length pc, .slice la zs.length lc], .bool true], .int .i64 n, .slice a zs.length c, .tuple #[.agg #[.slice pa zs.length pc, .slice la zs.length lc], .bool true], .agg #[.slice pa zs.length pc, .slice la zs.length lc], .bool true, .tuple #[.bool true, .bool true], .int .i64 n, .slice a zs.length c, .tuple #[.bool true, .bool true], .bool true, .bool true, .bool true, .bool false, .bool false, .bool true, .bool false, .bool false, undef, .agg #[.slice none 0 0, .int .i64 0], .int .i64 n, .agg #[.int .i64 n, .int .i64 3], .func (.func 115) #[] #[.pointer (some ⟨w2.heap.size + 1 + 1, 0, none⟩)], .slice xp xs.length xq, .bool false, .bool false, undef, undef, undef, undef, undef, undef, undef, undef, undef, undef, undef, undef, undef, undef, undef, undef, undef, undef, undef], defers := [] } W' := by
          intro W' hW'
          rw [hG]
          refine wpAnyIn_ready (rs := [7]) (by kernel_rfl) (by simp) ?_
          refine AllReadyIn.cons rfl (fun K hK => ?_) ?_
          · go_simp
            refine hK _ _ ?_
            rw [← hG]
            exact H01234567_ _ hW'
          exact AllReadyIn.nil
        have H012345_ : ∀ W' : World, Below W.heap.size W W' → G 3 #[true, true, true, true, true, true, false, false, false] { tmps := #[.int .i64 n, .slice a zs.length c, undef, undef, .pointer (some ⟨w.heap.size, 0, none⟩), .bool false, .pointer (some ⟨w1.heap.size, 0, none⟩), .bool true, .bool true, .bool true, .pointer (some ⟨w2.heap.size, 0, none⟩), .pointer (some ⟨w2.heap.size + 1, 0, none⟩), .slice xp xs.length xq, undef, undef, .tuple #[.agg #[.slice pa zs.length pc, .slice la zs.length lc], .bool true], .int .i64 n, .slice a zs.length c, .tuple #[.agg #[.slice pa zs.length pc, .slice la zs.length lc], .bool true], .agg #[.slice pa zs.length pc, .slice la zs.length lc], .bool true, .tuple #[.bool true, .bool true], .int .i64 n, .slice a zs.length c, .tuple #[.bool true, .bool true], .bool true, .bool true, .bool true, .bool false, .bool false, .bool true, .bool false, .bool false, undef, .agg #[.slice none 0 0, .int .i64 0], .int .i64 n, .agg #[.int .i64 n, .int .i64 3], .func (.func 115) #[] #[.pointer (some ⟨w2.heap.size + 1 + 1, 0, none⟩)], .slice xp xs.length xq, .bool false, .bool false, undef, undef, undef, undef, undef, undef, undef, undef, undef, undef, undef, undef, undef, undef, undef, undef, undef, undef, undef], defers := [] } W' := by
          intro W' hW'
          rw [hG]
          refine wpAnyIn_ready (rs := [6]) (by kernel_rfl) (by simp) ?_
          refine AllReadyIn.cons rfl (fun K hK => ?_) ?_
          · go_simp
            refine ⟨trivial, ?_⟩
            refine hK _ _ ?_
            rw [← hG]
            exact H0123456_ _ hW'
          exact AllReadyIn.nil
        have H01234_ : ∀ W' : World, Below W.heap.size W W' → G 4 #[true, true, true, true, true, false, false, false, false] { tmps := #[.int .i64 n, .slice a zs.length c, undef, undef, .pointer (some ⟨w.heap.size, 0, none⟩), .bool false, .pointer (some ⟨w1.heap.size, 0, none⟩), .bool true, .bool true, .bool true, .pointer (some ⟨w2.heap.size, 0, none⟩), .pointer (some ⟨w2.heap.size + 1, 0, none⟩), .slice xp xs.length xq, undef, undef, .tuple #[.agg #[.slice pa zs.length pc, .slice la zs.length lc], .bool true], .int .i64 n, .slice a zs.length c, .tuple #[.agg #[.slice pa zs.length pc, .slice la zs.length lc], .bool true], .agg #[.slice pa zs.length pc, .slice la zs.length lc], .bool true, .tuple #[.bool true, .bool true], .int .i64 n, .slice a zs.length c, .tuple #[.bool true, .bool true], .bool true, .bool true, .bool true, .bool false, .bool false, .bool true, .bool false, .bool false, undef, .agg #[.slice none 0 0, .int .i64 0], .int .i64 n, .agg #[.int .i64 n, .int .i64 3], .func (.func 115) #[] #[.pointer (some ⟨w2.heap.size + 1 + 1, 0, none⟩)], .slice xp xs.length xq, .bool false, .bool false, undef, undef, undef, undef, undef, undef, undef, undef, undef, undef, undef, undef, undef, undef, undef, undef, undef, undef, undef], defers := [] } W' := by
          intro W' hW'
          have cF' := cell_below hW' cF (by omega)
          rw [hG]
          refine wpAnyIn_ready (rs := [5]) (by kernel_rfl) (by simp) ?_
          refine AllReadyIn.cons rfl (fun K hK => ?_) ?_
          · go_simp
            refine hK _ _ ?_
            rw [← hG]
            exact H012345_ _ hW'
          exact AllReadyIn.nil
        have H01245_ : ∀ W' : World, Below W.heap.size W W' → G 4 #[true, true, true, false, true, true, false, false, false] { tmps := #[.int .i64 n, .slice a zs.length c, undef, undef, .pointer (some ⟨w.heap.size, 0, none⟩), .bool false, .pointer (some ⟨w1.heap.size, 0, none⟩), .bool true, .bool true, .bool true, .pointer (some ⟨w2.heap.size, 0, none⟩), .pointer (some ⟨w2.heap.size + 1, 0, none⟩), .slice xp xs.length xq, undef, undef, .tuple #[.agg #[.slice pa zs.length pc, .slice la zs.length lc], .bool true], .int .i64 n, .slice a zs.length c, .tuple #[.agg #[.slice pa zs.length pc, .slice la zs.length lc], .bool true], .agg #[.slice pa zs.length pc, .slice la zs.length lc], .bool true, .tuple #[.bool true, .bool true], .int .i64 n, .slice a zs.length c, .tuple #[.bool true, .bool true], .bool true, .bool true, .bool true, .bool false, .bool false, .bool true, .bool false, .bool false, undef, .agg #[.slice none 0 0, .int .i64 0], .int .i64 n, .agg #[.int .i64 n, .int .i64 3], .func (.func 115) #[] #[.pointer (some ⟨w2.heap.size + 1 + 1, 0, none⟩)], .slice xp xs.length xq, .bool false, .bool false, undef, undef, undef, undef, undef, undef, undef, undef, undef, undef, undef, undef, undef, undef, undef, undef, undef, undef, undef], defers := [] } W' := by
          intro W' hW'
          rw [hG]
          refine wpAnyIn_ready (rs := [3]) (by kernel_rfl) (by simp) ?_
          refine AllReadyIn.cons rfl (fun K hK => ?_) ?_
          · go_simp
            refine ⟨trivial, ?_⟩
            refine hK _ _ ?_
            rw [← hG]
            exact H012345_ _ hW'
          exact AllReadyIn.nil
        have H0123_ : ∀ W' : World, Below W.heap.size W W' → G 5 #[true, true, true, true, false, false, false, false, false] { tmps := #[.int .i64 n, .slice a zs.length c, undef, undef, .pointer (some ⟨w.heap.size, 0, none⟩), .bool false, .pointer (some ⟨w1.heap.size, 0, none⟩), .bool true, .bool true, .bool true, .pointer (some ⟨w2.heap.size, 0, none⟩), .pointer (some ⟨w2.heap.size + 1, 0, none⟩), .slice xp xs.length xq, undef, undef, .tuple #[.agg #[.slice pa zs.length pc, .slice la zs.length lc], .bool true], .int .i64 n, .slice a zs.length c, .tuple #[.agg #[.slice pa zs.length pc, .slice la zs.length lc], .bool true], .agg #[.slice pa zs.length pc, .slice la zs.length lc], .bool true, .tuple #[.bool true, .bool true], .int .i64 n, .slice a zs.length c, .tuple #[.bool true, .bool true], .bool true, .bool true, .bool true, .bool false, .bool false, .bool true, .bool false, .bool false, undef, .agg #[.slice none 0 0, .int .i64 0], .int .i64 n, .agg #[.int .i64 n, .int .i64 3], .func (.func 115) #[] #[.pointer (some ⟨w2.heap.size + 1 + 1, 0, none⟩)], .slice xp xs.length xq, .bool false, .bool false, undef, undef, undef, undef, undef, undef, undef, undef, undef, undef, undef, undef, undef, undef, undef, undef, undef, undef, undef], defers := [] } W' := by
          intro W' hW'
          have cF' := cell_below hW' cF (by omega)
          rw [hG]
          refine wpAnyIn_ready (rs := [4]) (by kernel_rfl) (by simp) ?_
          refine AllReadyIn.cons rfl (fun K hK => ?_) ?_
          · go_simp
            refine hK _ _ ?_
            rw [← hG]
            exact H01234_ _ hW'
          exact AllReadyIn.nil
        have H0124_ : ∀ W' : World, Below W.heap.size W W' → G 5 #[true, true, true, false, true, false, false, false, false] { tmps := #[.int .i64 n, .slice a zs.length c, undef, undef, .pointer (some ⟨w.heap.size, 0, none⟩), .bool false, .pointer (some ⟨w1.heap.size, 0, none⟩), .bool true, .bool true, .bool true, .pointer (some ⟨w2.heap.size, 0, none⟩), .pointer (some ⟨w2.heap.size + 1, 0, none⟩), .slice xp xs.length xq, undef, undef, .tuple #[.agg #[.slice pa zs.length pc, .slice la zs.length lc], .bool true], .int .i64 n, .slice a zs.length c, .tuple #[.agg #[.slice pa zs.length pc, .slice la zs.length lc], .bool true], .agg #[.slice pa zs.length pc, .slice la zs.length lc], .bool true, .tuple #[.bool true, .bool true], .int .i64 n, .slice a zs.length c, .tuple #[.bool true, .bool true], .bool true, .bool true, .bool true, .bool false, .bool false, .bool true, .bool false, .bool false, undef, .agg #[.slice none 0 0, .int .i64 0], .int .i64 n, .agg #[.int .i64 n, .int .i64 3], .func (.func 115) #[] #[.pointer (some ⟨w2.heap.size + 1 + 1, 0, none⟩)], .slice xp xs.length xq, .bool false, .bool false, undef, undef, undef, undef, undef, undef, undef, undef, undef, undef, undef, undef, undef, undef, undef, undef, undef, undef, undef], defers := [] } W' := by
          intro W' hW'
          have cF' := cell_below hW' cF (by omega)
          rw [hG]
          refine wpAnyIn_ready (rs := [3, 5]) (by kernel_rfl) (by simp) ?_
          refine AllReadyIn.cons rfl (fun K hK => ?_) ?_
          · go_simp
            refine ⟨trivial, ?_⟩
            refine hK _ _ ?_
            rw [← hG]
            exact H01234_ _ hW'
          refine AllReadyIn.cons rfl (fun K hK => ?_) ?_
          · go_simp
            refine hK _ _ ?_
            rw [← hG]
            exact H01245_ _ hW'
          exact AllReadyIn.nil
        have H0145_ : ∀ W' : World, Below W.heap.size W W' → G 5 #[true, true, false, false, true, true, false, false, false] { tmps := #[.int .i64 n, .slice a zs.length c, undef, undef, .pointer (some ⟨w.heap.size, 0, none⟩), .bool false, .pointer (some ⟨w1.heap.size, 0, none⟩), .bool true, .bool true, .bool true, .pointer (some ⟨w2.heap.size, 0, none⟩), .pointer (some ⟨w2.heap.size + 1, 0, none⟩), .slice xp xs.length xq, undef, undef, .tuple #[.agg #[.slice pa zs.length pc, .slice la zs.length lc], .bool true], .int .i64 n, .slice a zs.length c, .tuple #[.agg #[.slice pa zs.length pc, .slice la zs.length lc], .bool true], .agg #[.slice pa zs.length pc, .slice la zs.length lc], .bool true, .tuple #[.bool true, .bool true], .int .i64 n, .slice a zs.length c, .tuple #[.bool true, .bool true], .bool true, .bool true, .bool true, .bool false, .bool false, .bool true, .bool false, .bool false, undef, .agg #[.slice none 0 0, .int .i64 0], .int .i64 n, .agg #[.int .i64 n, .int .i64 3], .func (.func 115) #[] #[.pointer (some ⟨w2.heap.size + 1 + 1, 0, none⟩)], .slice xp xs.length xq, .bool false, .bool false, undef, undef, undef, undef, undef, undef, undef, undef, undef, undef, undef, undef, undef, undef, undef, undef, undef, undef, undef], defers := [] } W' := by
          intro W' hW'
          rw [hG]
          refine wpAnyIn_ready (rs := [2]) (by kernel_rfl) (by simp) ?_
          refine AllReadyIn.cons rfl (fun K hK => ?_) ?_
          · go_simp
            refine hK _ _ ?_
            rw [← hG]
            exact H01245_ _ hW'
          exact AllReadyIn.nil
        have H012_ : ∀ W' : World, Below W.heap.size W W' → G 6 #[true, true, true, false, false, false, false, false, false] { tmps := #[.int .i64 n, .slice a zs.length c, undef, undef, .pointer (some ⟨w.heap.size, 0, none⟩), .bool false, .pointer (some ⟨w1.heap.size, 0, none⟩), .bool true, .bool true, .bool true, .pointer (some ⟨w2.heap.size, 0, none⟩), .pointer (some ⟨w2.heap.size + 1, 0, none⟩), .slice xp xs.length xq, undef, undef, .tuple #[.agg #[.slice pa zs.length pc, .slice la zs.length lc], .bool true], .int .i64 n, .slice a zs.length c, .tuple #[.agg #[.slice pa zs.length pc, .slice la zs.length lc], .bool true], .agg #[.slice pa zs.length pc, .slice la zs.length lc], .bool true, .tuple #[.bool true, .bool true], .int .i64 n, .slice a zs.length c, .tuple #[.bool true, .bool true], .bool true, .bool true, .bool true, .bool false, .bool false, .bool true, .bool false, .bool false, undef, .agg #[.slice none 0 0, .int .i64 0], .int .i64 n, .agg #[.int .i64 n, .int .i64 3], .func (.func 115) #[] #[.pointer (some ⟨w2.heap.size + 1 + 1, 0, none⟩)], .slice xp xs.length xq, .bool false, .bool false, undef, undef, undef, undef, undef, undef, undef, undef, undef, undef, undef, undef, undef, undef, undef, undef, undef, undef, undef], defers := [] } W' := by
          intro W' hW'
          have cF' := cell_below hW' cF (by omega)
          rw [hG]
          refine wpAnyIn_ready (rs := [3, 4]) (by kernel_rfl) (by simp) ?_
          refine AllReadyIn.cons rfl (fun K hK => ?_) ?_
          · go_simp
            refine ⟨trivial, ?_⟩
            refine hK _ _ ?_
            rw [← hG]
            exact H0123_ _ hW'
          refine AllReadyIn.cons rfl (fun K hK => ?_) ?_
          · go_simp
            refine hK _ _ ?_
            rw [← hG]
            exact H0124_ _ hW'
          exact AllReadyIn.nil
        have H014_ : ∀ W' : World, Below W.heap.size W W' → G 6 #[true, true, false, false, true, false, false, false, false] { tmps := #[.int .i64 n, .slice a zs.length c, undef, undef, .pointer (some ⟨w.heap.size, 0, none⟩), .bool false, .pointer (some ⟨w1.heap.size, 0, none⟩), .bool true, .bool true, .bool true, .pointer (some ⟨w2.heap.size, 0, none⟩), .pointer (some ⟨w2.heap.size + 1, 0, none⟩), .slice xp xs.length xq, undef, undef, .tuple #[.agg #[.slice pa zs.length pc, .slice la zs.length lc], .bool true], .int .i64 n, .slice a zs.length c, .tuple #[.agg #[.slice pa zs.length pc, .slice la zs.length lc], .bool true], .agg #[.slice pa zs.length pc, .slice la zs.length lc], .bool true, .tuple #[.bool true, .bool true], .int .i64 n, .slice a zs.length c, .tuple #[.bool true, .bool true], .bool true, .bool true, .bool true, .bool false, .bool false, .bool true, .bool false, .bool false, undef, .agg #[.slice none 0 0, .int .i64 0], .int .i64 n, .agg #[.int .i64 n, .int .i64 3], .func (.func 115) #[] #[.pointer (some ⟨w2.heap.size + 1 + 1, 0, none⟩)], .slice xp xs.length xq, .bool false, .bool false, undef, undef, undef, undef, undef, undef, undef, undef, undef, undef, undef, undef, undef, undef, undef, undef, undef, undef, undef], defers := [] } W' := by
          intro W' hW'
          have cF' := cell_below hW' cF (by omega)
          rw [hG]
          refine wpAnyIn_ready (rs := [2, 5]) (by kernel_rfl) (by simp) ?_
          refine AllReadyIn.cons rfl (fun K hK => ?_) ?_
          · go_simp
            refine hK _ _ ?_
            rw [← hG]
            exact H0124_ _ hW'
          refine AllReadyIn.cons rfl (fun K hK => ?_) ?_
          · go_simp
            refine hK _ _ ?_
            rw [← hG]
            exact H0145_ _ hW'
          exact AllReadyIn.nil
        have H01_ : ∀ W' : World, Below W.heap.size W W' → G 7 #[true, true, false, false, false, false, false, false, false] { tmps := #[.int .i64 n, .slice a zs.length c, undef, undef, .pointer (some ⟨w.heap.size, 0, none⟩), .bool false, .pointer (some ⟨w1.heap.size, 0, none⟩), .bool true, .bool true, .bool true, .pointer (some ⟨w2.heap.size, 0, none⟩), .pointer (some ⟨w2.heap.size + 1, 0, none⟩), .slice xp xs.length xq, undef, undef, .tuple #[.agg #[.slice pa zs.length pc, .slice la zs.length lc], .bool true], .int .i64 n, .slice a zs.length c, .tuple #[.agg #[.slice pa zs.length pc, .slice la zs.length lc], .bool true], .agg #[.slice pa zs.length pc, .slice la zs.length lc], .bool true, .tuple #[.bool true, .bool true], .int .i64 n, .slice a zs.length c, .tuple #[.bool true, .bool true], .bool true, .bool true, .bool true, .bool false, .bool false, .bool true, .bool false, .bool false, undef, .agg #[.slice none 0 0, .int .i64 0], .int .i64 n, .agg #[.int .i64 n, .int .i64 3], .func (.func 115) #[] #[.pointer (some ⟨w2.heap.size + 1 + 1, 0, none⟩)], .slice xp xs.length xq, .bool false, .bool false, undef, undef, undef, undef, undef, undef, undef, undef, undef, undef, undef, undef, undef, undef, undef, undef, undef, undef, undef], defers := [] } W' := by
          intro W' hW'
          have cF' := cell_below hW' cF (by omega)
          rw [hG]
          refine wpAnyIn_ready (rs := [2, 4]) (by kernel_rfl) (by simp) ?_
          refine AllReadyIn.cons rfl (fun K hK => ?_) ?_
          · go_simp
            refine hK _ _ ?_
            rw [← hG]
            exact H012_ _ hW'
          refine AllReadyIn.cons rfl (fun K hK => ?_) ?_
          · go_simp
            refine hK _ _ ?_
            rw [← hG]
            exact H014_ _ hW'
          exact AllReadyIn.nil
        have H0_ : ∀ W' : World, Below W.heap.size W W' → G 8 #[true, false, false, false, false, false, false, false, false] { tmps := #[.int .i64 n, .slice a zs.length c, undef, undef, .pointer (some ⟨w.heap.size, 0, none⟩), .bool false, .pointer (some ⟨w1.heap.size, 0, none⟩), .bool true, .bool true, .bool true, .pointer (some ⟨w2.heap.size, 0, none⟩), .pointer (some ⟨w2.heap.size + 1, 0, none⟩), .slice xp xs.length xq, undef, undef, .tuple #[.agg #[.slice pa zs.length pc, .slice la zs.length lc], .bool true], .int .i64 n, .slice a zs.length c, .tuple #[.agg #[.slice pa zs.length pc, .slice la zs.length lc], .bool true], .agg #[.slice pa zs.length pc, .slice la zs.length lc], .bool true, .tuple #[.bool true, .bool true], .int .i64 n, .slice a zs.length c, .tuple #[.bool true, .bool true], .bool true, .bool true, .bool true, .bool false, .bool false, .bool true, .bool false, .bool false, undef, .agg #[.slice none 0 0, .int .i64 0], .int .i64 n, .agg #[.int .i64 n, .int .i64 3], .func (.func 115) #[] #[.pointer (some ⟨w2.heap.size + 1 + 1, 0, none⟩)], .slice xp xs.length xq, .bool false, undef, undef, undef, undef, undef, undef, undef, undef, undef, undef, undef, undef, undef, undef, undef, undef, undef, undef, undef, undef], defers := [] } W' := by
          intro W' hW'
          have cF' := cell_below hW' cF (by omega)
          rw [hG]
          refine wpAnyIn_ready (rs := [1]) (by kernel_rfl) (by simp) ?_
          refine AllReadyIn.cons rfl (fun K hK => ?_) ?_
          · go_simp
            refine hK _ _ ?_
            rw [← hG]
            exact H01_ _ hW'
          exact AllReadyIn.nil
        have hW' : Below W.heap.size W W.drew := (Below.refl _ W).drew
        have cF' := cell_below hW' cF (by omega)
        rw [hG]
        refine wpAnyIn_ready (rs := [0]) (by kernel_rfl) (by simp) ?_
        refine AllReadyIn.cons rfl (fun K hK => ?_) ?_
        · go_simp
          refine hK _ _ ?_
          rw [← hG]
          exact H0_ _ hW'
        exact AllReadyIn.nil
      · rw [hf] at cF HPF
        have HF := Lib.hid hf
        obtain ⟨vp, vq, rfl, hvr, _, _⟩ := hov.slice
        have hbr := bs_row n zs (wts n) pre.length (by rw [wts_length]; omega)
        have hbm : W3 (bs n zs (wts n) pre.length).1 ∧ (bs n zs (wts n) pre.length).1.length ≤ 4 := by
          rcases hbr with e | e
          · rw [e]; exact ⟨w3_nil, by simp⟩
          · exact ⟨w3_row e, by rw [(wts_row e).1]; exact h4⟩
        have HZB := Lib.hid (fun (W' : World) (hb : Below W.heap.size W W') => sizei.impl_size vp (bs n zs (wts n) pre.length).1 vq W' (hvr.below hb) hbm.2 hbm.1)
        have hz1 := sz_bd hW3 xs.length (Nat.le_refl _)
        have hz2 := sz_bd hbm.1 (bs n zs (wts n) pre.length).1.length (Nat.le_refl _)
        have cB : W.cell? ⟨w2.heap.size, 0, none⟩ = some (.slice vp (bs n zs (wts n) pre.length).1.length vq) := by simp [World.cell?, HPB.out]
        obtain ⟨sx, hsx⟩ : ∃ sx, sx = size xs := ⟨_, rfl⟩
        obtain ⟨sb, hsb⟩ : ∃ sb, sb = size (bs n zs (wts n) pre.length).1 := ⟨_, rfl⟩
        rw [show szTo xs xs.length = size xs from rfl] at hz1
        rw [show szTo (bs n zs (wts n) pre.length).1 (bs n zs (wts n) pre.length).1.length = size (bs n zs (wts n) pre.length).1 from rfl] at hz2
        rw [← hsx] at HZX hz1
        rw [← hsb] at HZB hz2
        have HSX := Lib.hid hsx
        have HSB := Lib.hid hsb
        clear hf hW3 hov hvr hbr hsx hsb hbm
        dsimp only
        by_cases hge : sb ≤ sx
        · have HGE := Lib.hid (show size (bs n zs (wts n) pre.length).1 ≤ size ((wts n).getD pre.length []) by rw [HX.out, ← HSX.out, ← HSB.out]; exact hge)
          gi_wp2
          refine wpIn_region_any (by assumption) ?_
          refine walk fun G hG => ?_
          have H012345678_ : ∀ W' : World, Below W.heap.size W W' → G 0 #[true, true, true, true, true, true, true, true, true] { tmps := #[.int .i64 n, .slice a zs.length c, undef, undef, .pointer (some ⟨w.heap.size, 0, none⟩), .bool false, .pointer (some ⟨w1.heap.size, 0, none⟩), .bool true, .bool true, .bool true, .pointer (some ⟨w2.heap.size, 0, none⟩), .pointer (some ⟨w2.heap.size + 1, 0, none⟩), .slice xp xs.length xq, undef, undef, .tuple #[.agg #[.slice pa zs.length pc, .slice la zs.length lc], .bool true], .int .i64 n, .slice a zs.length c, .tuple #[.agg #[.slice pa zs.length pc, .slice la zs.length lc], .bool true], .agg #[.slice pa zs.length pc, .slice la zs.length lc], .bool true, .tuple #[.bool true, .bool true], .int .i64 n, .slice a zs.length c, .tuple #[.bool true, .bool true], .bool true, .bool true, .bool true, .bool false, .bool false, .bool true, .bool false, .bool false, undef, .agg #[.slice none 0 0, .int .i64 0], .int .i64 n, .agg #[.int .i64 n, .int .i64 3], .func (.func 115) #[] #[.pointer (some ⟨w2.heap.size + 1 + 1, 0, none⟩)], .slice xp xs.length xq, .bool true, .bool true, .slice xp xs.length xq, .int .i64 sx, .pointer (some ⟨w2.heap.size, 0, none⟩), .slice vp (bs n zs (wts n) pre.length).1.length vq, .int .i64 sb, .bool true, .bool true, undef, undef, undef, undef, undef, undef, undef, undef, undef, undef, undef, undef], defers := [] } W' := by
            intro W' hW'
            rw [hG]
            refine wpAnyIn_done (by kernel_rfl) ?_ _
            clear hG
            gi_wp2
            have hbu := but_of_below (g := w2.heap.size + 1) (B := w2.heap.size) hW'
            refine ⟨hbu.keepsFrom (by omega) (by omega), kp_but hbu (by omega), ?_, HBU.out.trans hbu⟩
            rw [HLEN.out]
            exact best_keep HBEST.out (bs_keep HF.out HGE.out) hW' (by omega) (by omega)
          have H01234567_ : ∀ W' : World, Below W.heap.size W W' → G 1 #[true, true, true, true, true, true, true, true, false] { tmps := #[.int .i64 n, .slice a zs.length c, undef, undef, .pointer (some ⟨w.heap.size, 0, none⟩), .bool false, .pointer (some ⟨w1.heap.size, 0, none⟩), .bool true, .bool true, .bool true, .pointer (some ⟨w2.heap.size, 0, none⟩), .pointer (some ⟨w2.heap.size + 1, 0, none⟩), .slice xp xs.length xq, undef, undef, .tuple #[.agg #[.slice pa zs.length pc, .slice la zs.length lc], .bool true], .int .i64 n, .slice a zs.length c, .tuple #[.agg #[.slice pa zs.length pc, .slice la zs.length lc], .bool true], .agg #[.slice pa zs.length pc, .slice la zs.length lc], .bool true, .tuple #[.bool true, .bool true], .int .i64 n, .slice a zs.length c, .tuple #[.bool true, .bool true], .bool true, .bool true, .bool true, .bool false, .bool false, .bool true, .bool false, .bool false, undef, .agg #[.slice none 0 0, .int .i64 0], .int .i64 n, .agg #[.int .i64 n, .int .i64 3], .func (.func 115) #[] #[.pointer (some ⟨w2.heap.size + 1 + 1, 0, none⟩)], .slice xp xs.length xq, .bool true, .bool true, .slice xp xs.length xq, .int .i64 sx, .pointer (some ⟨w2.heap.size, 0, none⟩), .slice vp (bs n zs (wts n) pre.length).1.length vq, .int .i64 sb, .bool true, undef, undef, undef, undef, undef, undef, undef, undef, undef, undef, undef, undef, undef], defers := [] } W' := by
            intro W' hW'
            rw [hG]
            refine wpAnyIn_ready (rs := [8]) (by kernel_rfl) (by simp) ?_
            refine AllReadyIn.cons rfl (fun K hK => ?_) ?_
            · go_simp
              refine hK _ _ ?_
              rw [← hG]
              exact H012345678_ _ hW'
            exact AllReadyIn.nil
          have H0123456_ : ∀ W' : World, Below W.heap.size W W' → G 2 #[true, true, true, true, true, true, true, false, false] { tmps := #[.int .i64 n, .slice a zs.length c, undef, undef, .pointer (some ⟨w.heap.size, 0, none⟩), .bool false, .pointer (some ⟨w1.heap.size, 0, none⟩), .bool true, .bool true, .bool true, .pointer (some ⟨w2.heap.size, 0, none⟩), .pointer (some ⟨w2.heap.size + 1, 0, none⟩), .slice xp xs.length xq, undef, undef, .tuple #[.agg #[.slice pa zs.length pc, .slice la zs.length lc], .bool true], .int .i64 n, .slice a zs.length c, .tuple #[.agg #[.slice pa zs.length pc, .slice la zs.length lc], .bool true], .agg #[.slice pa zs.length pc, .slice la zs.length lc], .bool true, .tuple #[.bool true, .bool true], .int .i64 n, .slice a zs.length c, .tuple #[.bool true, .bool true], .bool true, .bool true, .bool true, .bool false, .bool false, .bool true, .bool false, .bool false, undef, .agg #[.slice none 0 0, .int .i64 0], .int .i64 n, .agg #[.int .i64 n, .int .i64 3], .func (.func 115) #[] #[.pointer (some ⟨w2.heap.size + 1 + 1, 0, none⟩)], .slice xp xs.length xq, .bool true, .bool true, .slice xp xs.length xq, .int .i64 sx, .pointer (some ⟨w2.heap.size, 0, none⟩), .slice vp (bs n zs (wts n) pre.length).1.length vq, .int .i64 sb, undef, undef, undef, undef, undef, undef, undef, undef, undef, undef, undef, undef, undef, undef], defers := [] } W' := by
            intro W' hW'
            rw [hG]
            refine wpAnyIn_ready (rs := [7]) (by kernel_rfl) (by simp) ?_
            refine AllReadyIn.cons rfl (fun K hK => ?_) ?_
            · go_simp
              refine hK _ _ ?_
              rw [← hG]
              exact H01234567_ _ hW'
            exact AllReadyIn.nil
          have H012345_ : ∀ W' : World, Below W.heap.size W W' → G 3 #[true, true, true, true, true, true, false, false, false] { tmps := #[.int .i64 n, .slice a zs.length c, undef, undef, .pointer (some ⟨w.heap.size, 0, none⟩), .bool false, .pointer (some ⟨w1.heap.size, 0, none⟩), .bool true, .bool true, .bool true, .pointer (some ⟨w2.heap.size, 0, none⟩), .pointer (some ⟨w2.heap.size + 1, 0, none⟩), .slice xp xs.length xq, undef, undef, .tuple #[.agg #[.slice pa zs.length pc, .slice la zs.length lc], .bool true], .int .i64 n, .slice a zs.length c, .tuple #[.agg #[.slice pa zs.length pc, .slice la zs.length lc], .bool true], .agg #[.slice pa zs.length pc, .slice la zs.length lc], .bool true, .tuple #[.bool true, .bool true], .int .i64 n, .slice a zs.length c, .tuple #[.bool true, .bool true], .bool true, .bool true, .bool true, .bool false, .bool false, .bool true, .bool false, .bool false, undef, .agg #[.slice none 0 0, .int .i64 0], .int .i64 n, .agg #[.int .i64 n, .int .i64 3], .func (.func 115) #[] #[.pointer (some ⟨w2.heap.size + 1 + 1, 0, none⟩)], .slice xp xs.length xq, .bool true, .bool true, .slice xp xs.length xq, .int .i64 sx, .pointer (some ⟨w2.heap.size, 0, none⟩), .slice vp (bs n zs (wts n) pre.length).1.length vq, undef, undef, undef, undef, undef, undef, undef, undef, undef, undef, undef, undef, undef, undef, undef], defers := [] } W' := by
            intro W' hW'
            rw [hG]
            refine wpAnyIn_ready (rs := [6]) (by kernel_rfl) (by simp) ?_
            refine AllReadyIn.cons rfl (fun K hK => ?_) ?_
            · go_simp
              refine ⟨trivial, ?_⟩
              refine (CallsIn.inRound l (callsIn_wide.2 (HZB.out W' hW'))).mono ?_
              rintro e wq ⟨rfl, hbq⟩
              refine hK _ _ ?_
              rw [← hG]
              exact H0123456_ wq (hW'.trans (hbq.mono hW'.size))
            exact AllReadyIn.nil
          have H01234_ : ∀ W' : World, Below W.heap.size W W' → G 4 #[true, true, true, true, true, false, false, false, false] { tmps := #[.int .i64 n, .slice a zs.length c, undef, undef, .pointer (some ⟨w.heap.size, 0, none⟩), .bool false, .pointer (some ⟨w1.heap.size, 0, none⟩), .bool true, .bool true, .bool true, .pointer (some ⟨w2.heap.size, 0, none⟩), .pointer (some ⟨w2.heap.size + 1, 0, none⟩), .slice xp xs.length xq, undef, undef, .tuple #[.agg #[.slice pa zs.length pc, .slice la zs.length lc], .bool true], .int .i64 n, .slice a zs.length c, .tuple #[.agg #[.slice pa zs.length pc, .slice la zs.length lc], .bool true], .agg #[.slice pa zs.length pc, .slice la zs.length lc], .bool true, .tuple #[.bool true, .bool true], .int .i64 n, .slice a zs.length c, .tuple #[.bool true, .bool true], .bool true, .bool true, .bool true, .bool false, .bool false, .bool true, .bool false, .bool false, undef, .agg #[.slice none 0 0, .int .i64 0], .int .i64 n, .agg #[.int .i64 n, .int .i64 3], .func (.func 115) #[] #[.pointer (some ⟨w2.heap.size + 1 + 1, 0, none⟩)], .slice xp xs.length xq, .bool true, .bool true, .slice xp xs.length xq, .int .i64 sx, .pointer (some ⟨w2.heap.size, 0, none⟩), undef, undef, undef, undef, undef, undef, undef, undef, undef, undef, undef, undef, undef, undef, undef, undef], defers := [] } W' := by
            intro W' hW'
            have cF' := cell_below hW' cF (by omega)
            have cB' := cell_below hW' cB (by omega)
            rw [hG]
            refine wpAnyIn_ready (rs := [5]) (by kernel_rfl) (by simp) ?_
            refine AllReadyIn.cons rfl (fun K hK => ?_) ?_
            · go_simp
              refine hK _ _ ?_
              rw [← hG]
              exact H012345_ _ hW'
            exact AllReadyIn.nil
          have H01245_ : ∀ W' : World, Below W.heap.size W W' → G 4 #[true, true, true, false, true, true, false, false, false] { tmps := #[.int .i64 n, .slice a zs.length c, undef, undef, .pointer (some ⟨w.heap.size, 0, none⟩), .bool false, .pointer (some ⟨w1.heap.size, 0, none⟩), .bool true, .bool true, .bool true, .pointer (some ⟨w2.heap.size, 0, none⟩), .pointer (some ⟨w2.heap.size + 1, 0, none⟩), .slice xp xs.length xq, undef, undef, .tuple #[.agg #[.slice pa zs.length pc, .slice la zs.length lc], .bool true], .int .i64 n, .slice a zs.length c, .tuple #[.agg #[.slice pa zs.length pc, .slice la zs.length lc], .bool true], .agg #[.slice pa zs.length pc, .slice la zs.length lc], .bool true, .tuple #[.bool true, .bool true], .int .i64 n, .slice a zs.length c, .tuple #[.bool true, .bool true], .bool true, .bool true, .bool true, .bool false, .bool false, .bool true, .bool false, .bool false, undef, .agg #[.slice none 0 0, .int .i64 0], .int .i64 n, .agg #[.int .i64 n, .int .i64 3], .func (.func 115) #[] #[.pointer (some ⟨w2.heap.size + 1 + 1, 0, none⟩)], .slice xp xs.length xq, .bool true, .bool true, .slice xp xs.length xq, undef, .pointer (some ⟨w2.heap.size, 0, none⟩), .slice vp (bs n zs (wts n) pre.length).1.length vq, undef, undef, undef, undef, undef, undef, undef, undef, undef, undef, undef, undef, undef, undef, undef], defers := [] } W' := by
            intro W' hW'
            rw [hG]
            refine wpAnyIn_ready (rs := [3]) (by kernel_rfl) (by simp) ?_
            refine AllReadyIn.cons rfl (fun K hK => ?_) ?_
            · go_simp
              refine ⟨trivial, ?_⟩
              refine (CallsIn.inRound l (callsIn_wide.2 (HZX.out W' hW'))).mono ?_
              rintro e wq ⟨rfl, hbq⟩
              refine hK _ _ ?_
              rw [← hG]
              exact H012345_ wq (hW'.trans (hbq.mono hW'.size))
            exact AllReadyIn.nil
          have H0123_ : ∀ W' : World, Below W.heap.size W W' → G 5 #[true, true, true, true, false, false, false, false, false] { tmps := #[.int .i64 n, .slice a zs.length c, undef, undef, .pointer (some ⟨w.heap.size, 0, none⟩), .bool false, .pointer (some ⟨w1.heap.size, 0, none⟩), .bool true, .bool true, .bool true, .pointer (some ⟨w2.heap.size, 0, none⟩), .pointer (some ⟨w2.heap.size + 1, 0, none⟩), .slice xp xs.length xq, undef, undef, .tuple #[.agg #[.slice pa zs.length pc, .slice la zs.length lc], .bool true], .int .i64 n, .slice a zs.length c, .tuple #[.agg #[.slice pa zs.length pc, .slice la zs.length lc], .bool true], .agg #[.slice pa zs.length pc, .slice la zs.length lc], .bool true, .tuple #[.bool true, .bool true], .int .i64 n, .slice a zs.length c, .tuple #[.bool true, .bool true], .bool true, .bool true, .bool true, .bool false, .bool false, .bool true, .bool false, .bool false, undef, .agg #[.slice none 0 0, .int .i64 0], .int .i64 n, .agg #[.int .i64 n, .int .i64 3], .func (.func 115) #[] #[.pointer (some ⟨w2.heap.size + 1 + 1, 0, none⟩)], .slice xp xs.length xq, .bool true, .bool true, .slice xp xs.length xq, .int .i64 sx, undef, undef, undef, undef, undef, undef, undef, undef, undef, undef, undef, undef, undef, undef, undef, undef, undef], defers := [] } W' := by
            intro W' hW'
            have cF' := cell_below hW' cF (by omega)
            have cB' := cell_below hW' cB (by omega)
            rw [hG]
            refine wpAnyIn_ready (rs := [4]) (by kernel_rfl) (by simp) ?_
            refine AllReadyIn.cons rfl (fun K hK => ?_) ?_
            · go_simp
              refine hK _ _ ?_
              rw [← hG]
              exact H01234_ _ hW'
            exact AllReadyIn.nil
          have H0124_ : ∀ W' : World, Below W.heap.size W W' → G 5 #[true, true, true, false, true, false, false, false, false] { tmps := #[.int .i64 n, .slice a zs.length c, undef, undef, .pointer (some ⟨w.heap.size, 0, none⟩), .bool false, .pointer (some ⟨w1.heap.size, 0, none⟩), .bool true, .bool true, .bool true, .pointer (some ⟨w2.heap.size, 0, none⟩), .pointer (some ⟨w2.heap.size + 1, 0, none⟩), .slice xp xs.length xq, undef, undef, .tuple #[.agg #[.slice pa zs.length pc, .slice la zs.length lc], .bool true], .int .i64 n, .slice a zs.length c, .tuple #[.agg #[.slice pa zs.length pc, .slice la zs.length lc], .bool true], .agg #[.slice pa zs.length pc, .slice la zs.length lc], .bool true, .tuple #[.bool true, .bool true], .int .i64 n, .slice a zs.length c, .tuple #[.bool true, .bool true], .bool true, .bool true, .bool true, .bool false, .bool false, .bool true, .bool false, .bool false, undef, .agg #[.slice none 0 0, .int .i64 0], .int .i64 n, .agg #[.int .i64 n, .int .i64 3], .func (.func 115) #[] #[.pointer (some ⟨w2.heap.size + 1 + 1, 0, none⟩)], .slice xp xs.length xq, .bool true, .bool true, .slice xp xs.length xq, undef, .pointer (some ⟨w2.heap.size, 0, none⟩), undef, undef, undef, undef, undef, undef, undef, undef, undef, undef, undef, undef, undef, undef, undef, undef], defers := [] } W' := by
            intro W' hW'
            have cF' := cell_below hW' cF (by omega)
            have cB' := cell_below hW' cB (by omega)
            rw [hG]
            refine wpAnyIn_ready (rs := [3, 5]) (by kernel_rfl) (by simp) ?_
            refine AllReadyIn.cons rfl (fun K hK => ?_) ?_
            · go_simp
              refine ⟨trivial, ?_⟩
              refine (CallsIn.inRound l (callsIn_wide.2 (HZX.out W' hW'))).mono ?_
              rintro e wq ⟨rfl, hbq⟩
              refine hK _ _ ?_
              rw [← hG]
              exact H01234_ wq (hW'.trans (hbq.mono hW'.size))
            refine AllReadyIn.cons rfl (fun K hK => ?_) ?_
            · go_simp
              refine hK _ _ ?_
              rw [← hG]
              exact H01245_ _ hW'
            exact AllReadyIn.nil
          have H0145_ : ∀ W' : World, Below W.heap.size W W' → G 5 #[true, true, false, false, true, true, false, false, false] { tmps := #[.int .i64 n, .slice a zs.length c, undef, undef, .pointer (some ⟨w.heap.size, 0, none⟩), .bool false, .pointer (some ⟨w1.heap.size, 0, none⟩), .bool true, .bool true, .bool true, .pointer (some ⟨w2.heap.size, 0, none⟩), .pointer (some ⟨w2.heap.size + 1, 0, none⟩), .slice xp xs.length xq, undef, undef, .tuple #[.agg #[.slice pa zs.length pc, .slice la zs.length lc], .bool true], .int .i64 n, .slice a zs.length c, .tuple #[.agg #[.slice pa zs.length pc, .slice la zs.length lc], .bool true], .agg #[.slice pa zs.length pc, .slice la zs.length lc], .bool true, .tuple #[.bool true, .bool true], .int .i64 n, .slice a zs.length c, .tuple #[.bool true, .bool true], .bool true, .bool true, .bool true, .bool false, .bool false, .bool true, .bool false, .bool false, undef, .agg #[.slice none 0 0, .int .i64 0], .int .i64 n, .agg #[.int .i64 n, .int .i64 3], .func (.func 115) #[] #[.pointer (some ⟨w2.heap.size + 1 + 1, 0, none⟩)], .slice xp xs.length xq, .bool true, .bool true, undef, undef, .pointer (some ⟨w2.heap.size, 0, none⟩), .slice vp (bs n zs (wts n) pre.length).1.length vq, undef, undef, undef, undef, undef, undef, undef, undef, undef, undef, undef, undef, undef, undef, undef], defers := [] } W' := by
            intro W' hW'
            rw [hG]
            refine wpAnyIn_ready (rs := [2]) (by kernel_rfl) (by simp) ?_
            refine AllReadyIn.cons rfl (fun K hK => ?_) ?_
            · go_simp
              refine hK _ _ ?_
              rw [← hG]
              exact H01245_ _ hW'
            exact AllReadyIn.nil
          have H012_ : ∀ W' : World, Below W.heap.size W W' → G 6 #[true, true, true, false, false, false, false, false, false] { tmps := #[.int .i64 n, .slice a zs.length c, undef, undef, .pointer (some ⟨w.heap.size, 0, none⟩), .bool false, .pointer (some ⟨w1.heap.size, 0, none⟩), .bool true, .bool true, .bool true, .pointer (some ⟨w2.heap.size, 0, none⟩), .pointer (some ⟨w2.heap.size + 1, 0, none⟩), .slice xp xs.length xq, undef, undef, .tuple #[.agg #[.slice pa zs.length pc, .slice la zs.length lc], .bool true], .int .i64 n, .slice a zs.length c, .tuple #[.agg #[.slice pa zs.length pc, .slice la zs.length lc], .bool true], .agg #[.slice pa zs.length pc, .slice la zs.length lc], .bool true, .tuple #[.bool true, .bool true], .int .i64 n, .slice a zs.length c, .tuple #[.bool true, .bool true], .bool true, .bool true, .bool true, .bool false, .bool false, .bool true, .bool false, .bool false, undef, .agg #[.slice none 0 0, .int .i64 0], .int .i64 n, .agg #[.int .i64 n, .int .i64 3], .func (.func 115) #[] #[.pointer (some ⟨w2.heap.size + 1 + 1, 0, none⟩)], .slice xp xs.length xq, .bool true, .bool true, .slice xp xs.length xq, undef, undef, undef, undef, undef, undef, undef, undef, undef, undef, undef, undef, undef, undef, undef, undef, undef, undef], defers := [] } W' := by
            intro W' hW'
            have cF' := cell_below hW' cF (by omega)
            have cB' := cell_below hW' cB (by omega)
            rw [hG]
            refine wpAnyIn_ready (rs := [3, 4]) (by kernel_rfl) (by simp) ?_
            refine AllReadyIn.cons rfl (fun K hK => ?_) ?_
            · go_simp
              refine ⟨trivial, ?_⟩
              refine (CallsIn.inRound l (callsIn_wide.2 (HZX.out W' hW'))).mono ?_
              rintro e wq ⟨rfl, hbq⟩
              refine hK _ _ ?_
              rw [← hG]
              exact H0123_ wq (hW'.trans (hbq.mono hW'.size))
            refine AllReadyIn.cons rfl (fun K hK => ?_) ?_
            · go_simp
              refine hK _ _ ?_
              rw [← hG]
              exact H0124_ _ hW'
            exact AllReadyIn.nil
          have H014_ : ∀ W' : World, Below W.heap.size W W' → G 6 #[true, true, false, false, true, false, false, false, false] { tmps := #[.int .i64 n, .slice a zs.length c, undef, undef, .pointer (some ⟨w.heap.size, 0, none⟩), .bool false, .pointer (some ⟨w1.heap.size, 0, none⟩), .bool true, .bool true, .bool true, .pointer (some ⟨w2.heap.size, 0, none⟩), .pointer (some ⟨w2.heap.size + 1, 0, none⟩), .slice xp xs.length xq, undef, undef, .tuple #[.agg #[.slice pa zs.length pc, .slice la zs.length lc], .bool true], .int .i64 n, .slice a zs.length c, .tuple #[.agg #[.slice pa zs.length pc, .slice la zs.length lc], .bool true], .agg #[.slice pa zs.length pc, .slice la zs.length lc], .bool true, .tuple #[.bool true, .bool true], .int .i64 n, .slice a zs.length c, .tuple #[.bool true, .bool true], .bool true, .bool true, .bool true, .bool false, .bool false, .bool true, .bool false, .bool false, undef, .agg #[.slice none 0 0, .int .i64 0], .int .i64 n, .agg #[.int .i64 n, .int .i64 3], .func (.func 115) #[] #[.pointer (some ⟨w2.heap.size + 1 + 1, 0, none⟩)], .slice xp xs.length xq, .bool true, .bool true, undef, undef, .pointer (some ⟨w2.heap.size, 0, none⟩), undef, undef, undef, undef, undef, undef, undef, undef, undef, undef, undef, undef, undef, undef, undef, undef], defers := [] } W' := by
            intro W' hW'
            have cF' := cell_below hW' cF (by omega)
            have cB' := cell_below hW' cB (by omega)
            rw [hG]
            refine wpAnyIn_ready (rs := [2, 5]) (by kernel_rfl) (by simp) ?_
            refine AllReadyIn.cons rfl (fun K hK => ?_) ?_
            · go_simp
              refine hK _ _ ?_
              rw [← hG]
              exact H0124_ _ hW'
            refine AllReadyIn.cons rfl (fun K hK => ?_) ?_
            · go_simp
              refine hK _ _ ?_
              rw [← hG]
              exact H0145_ _ hW'
            exact AllReadyIn.nil
          have H01_ : ∀ W' : World, Below W.heap.size W W' → G 7 #[true, true, false, false, false, false, false, false, false] { tmps := #[.int .i64 n, .slice a zs.length c, undef, undef, .pointer (some ⟨w.heap.size, 0, none⟩), .bool false, .pointer (some ⟨w1.heap.size, 0, none⟩), .bool true, .bool true, .bool true, .pointer (some ⟨w2.heap.size, 0, none⟩), .pointer (some ⟨w2.heap.size + 1, 0, none⟩), .slice xp xs.length xq, undef, undef, .tuple #[.agg #[.slice pa zs.length pc, .slice la zs.length lc], .bool true], .int .i64 n, .slice a zs.length c, .tuple #[.agg #[.slice pa zs.length pc, .slice la zs.length lc], .bool true], .agg #[.slice pa zs.length pc, .slice la zs.length lc], .bool true, .tuple #[.bool true, .bool true], .int .i64 n, .slice a zs.length c, .tuple #[.bool true, .bool true], .bool true, .bool true, .bool true, .bool false, .bool false, .bool true, .bool false, .bool false, undef, .agg #[.slice none 0 0, .int .i64 0], .int .i64 n, .agg #[.int .i64 n, .int .i64 3], .func (.func 115) #[] #[.pointer (some ⟨w2.heap.size + 1 + 1, 0, none⟩)], .slice xp xs.length xq, .bool true, .bool true, undef, undef, undef, undef, undef, undef, undef, undef, undef, undef, undef, undef, undef, undef, undef, undef, undef, undef, undef], defers := [] } W' := by
            intro W' hW'
            have cF' := cell_below hW' cF (by omega)
            have cB' := cell_below hW' cB (by omega)
            rw [hG]
            refine wpAnyIn_ready (rs := [2, 4]) (by kernel_rfl) (by simp) ?_
            refine AllReadyIn.cons rfl (fun K hK => ?_) ?_
            · go_simp
              refine hK _ _ ?_
              rw [← hG]
              exact H012_ _ hW'
            refine AllReadyIn.cons rfl (fun K hK => ?_) ?_
            · go_simp
              refine hK _ _ ?_
              rw [← hG]
              exact H014_ _ hW'
            exact AllReadyIn.nil
          have H0_ : ∀ W' : World, Below W.heap.size W W' → G 8 #[true, false, false, false, false, false, false, false, false] { tmps := #[.int .i64 n, .slice a zs.length c, undef, undef, .pointer (some ⟨w.heap.size, 0, none⟩), .bool false, .pointer (some ⟨w1.heap.size, 0, none⟩), .bool true, .bool true, .bool true, .pointer (some ⟨w2.heap.size, 0, none⟩), .pointer (some ⟨w2.heap.size + 1, 0, none⟩), .slice xp xs.length xq, undef, undef, .tuple #[.agg #[.slice pa zs.length pc, .slice la zs.length lc], .bool true], .int .i64 n, .slice a zs.length c, .tuple #[.agg #[.slice pa zs.length pc, .slice la zs.length lc], .bool true], .agg #[.slice pa zs.length pc, .slice la zs.length lc], .bool true, .tuple #[.bool true, .bool true], .int .i64 n, .slice a zs.length c, .tuple #[.bool true, .bool true], .bool true, .bool true, .bool true, .bool false, .bool false, .bool true, .bool false, .bool false, undef, .agg #[.slice none 0 0, .int .i64 0], .int .i64 n, .agg #[.int .i64 n, .int .i64 3], .func (.func 115) #[] #[.pointer (some ⟨w2.heap.size + 1 + 1, 0, none⟩)], .slice xp xs.length xq, .bool true, undef, undef, undef, undef, undef, undef, undef, undef, undef, undef, undef, undef, undef, undef, undef, undef, undef, undef, undef, undef], defers := [] } W' := by
            intro W' hW'
            have cF' := cell_below hW' cF (by omega)
            have cB' := cell_below hW' cB (by omega)
            rw [hG]
            refine wpAnyIn_ready (rs := [1]) (by kernel_rfl) (by simp) ?_
            refine AllReadyIn.cons rfl (fun K hK => ?_) ?_
            · go_simp
              refine hK _ _ ?_
              rw [← hG]
              exact H01_ _ hW'
            exact AllReadyIn.nil
          have hW' : Below W.heap.size W W.drew := (Below.refl _ W).drew
          have cF' := cell_below hW' cF (by omega)
          have cB' := cell_below hW' cB (by omega)
          rw [hG]
          refine wpAnyIn_ready (rs := [0]) (by kernel_rfl) (by simp) ?_
          refine AllReadyIn.cons rfl (fun K hK => ?_) ?_
          · go_simp
            refine hK _ _ ?_
            rw [← hG]
            exact H0_ _ hW'
          exact AllReadyIn.nil
        · have hge2 : sx < sb := by omega
          have hge3 : decide (sb ≤ sx) = false := decide_eq_false hge
          have HNG := Lib.hid (show ¬ size (bs n zs (wts n) pre.length).1 ≤ size ((wts n).getD pre.length []) by rw [HX.out, ← HSX.out, ← HSB.out]; exact hge)
          gi_wp2
          refine wpIn_region_any (by assumption) ?_
          refine walk fun G hG => ?_
          have H012345678_ : ∀ W' : World, Below W.heap.size W W' → G 0 #[true, true, true, true, true, true, true, true, true] { tmps := #[.int .i64 n, .slice a zs.length c, undef, undef, .pointer (some ⟨w.heap.size, 0, none⟩), .bool false, .pointer (some ⟨w1.heap.size, 0, none⟩), .bool true, .bool true, .bool true, .pointer (some ⟨w2.heap.size, 0, none⟩), .pointer (some ⟨w2.heap.size + 1, 0, none⟩), .slice xp xs.length xq, undef, undef, .tuple #[.agg #[.slice pa zs.length pc, .slice la zs.length lc], .bool true], .int .i64 n, .slice a zs.length c, .tuple #[.agg #[.slice pa zs.length pc, .slice la zs.length lc], .bool true], .agg #[.slice pa zs.length pc, .slice la zs.length lc], .bool true, .tuple #[.bool true, .bool true], .int .i64 n, .slice a zs.length c, .tuple #[.bool true, .bool true], .bool true, .bool true, .bool true, .bool false, .bool false, .bool true, .bool false, .bool false, undef, .agg #[.slice none 0 0, .int .i64 0], .int .i64 n, .agg #[.int .i64 n, .int .i64 3], .func (.func 115) #[] #[.pointer (some ⟨w2.heap.size + 1 + 1, 0, none⟩)], .slice xp xs.length xq, .bool true, .bool true, .slice xp xs.length xq, .int .i64 sx, .pointer (some ⟨w2.heap.size, 0, none⟩), .slice vp (bs n zs (wts n) pre.length).1.length vq, .int .i64 sb, .bool false, .bool false, undef, undef, undef, undef, undef, undef, undef, undef, undef, undef, undef, undef], defers := [] } W' := by
            intro W' hW'
            rw [hG]
            refine wpAnyIn_done (by kernel_rfl) ?_ _
            have s0' := cell_below hW' s0 (by omega)
            have s1' := cell_below hW' s1 (by omega)
            clear hG
            gi_wp2
            refine ⟨trivial, ?_⟩
            refine (CallsIn.inRound l (callsIn_wide.2 (HBD.out W' hW'))).mono ?_
            rintro e wb ⟨rfl, hbb⟩
            have hWb := hW'.trans (hbb.mono hW'.size)
            have hpB := (hWb.block _ (by omega)).trans HPB.out
            have hpF := boxed_below HPF.out hWb (by omega)
            have fB0 : wb.frozen? ⟨w2.heap.size, 0, none⟩ = false := by simp [World.frozen?, hpB]
            have fB1 : wb.frozen? ⟨w2.heap.size, 1, none⟩ = false := by simp [World.frozen?, hpB]
            have cB0 : wb.cell? ⟨w2.heap.size, 0, none⟩ = some (.slice vp (bs n zs (wts n) pre.length).1.length vq) := by simp [World.cell?, hpB]
            have cB1 : wb.cell? ⟨w2.heap.size, 1, none⟩ = some (.int .i64 (bv n zs pre.length)) := by simp [World.cell?, hpB]
            have fF0 := hpF.frozen
            have cF0 := hpF.cell
            have HWB := Lib.hid hWb
            have HpB := Lib.hid hpB
            have HpF := Lib.hid hpF
            clear hbb hWb hpB hpF s0' s1'
            cases P0
            · gi_wp2
              have hbu := but_of_below (g := w2.heap.size + 1) (B := w2.heap.size) HWB.out
              refine ⟨hbu.keepsFrom (by omega) (by omega), kp_but hbu (by omega), ?_, HBU.out.trans hbu⟩
              rw [HLEN.out]
              exact best_keep HBEST.out (bs_no (by rw [HX.out]; exact HP0.out)) HWB.out (by omega) (by omega)
            · gi_wp2
              have hbu := but_of_below (g := w2.heap.size + 1) (B := w2.heap.size) HWB.out
              have hbu3 := but_set (u := 0) (v := .bool true) (but_set (u := 1) (v := .int .i64 (tie.bd n zs xs)) (but_set (u := 0) (v := .slice xp xs.length xq) hbu (.inr rfl)) (.inr rfl)) (.inl rfl)
              rw [HBN.out HP0.out]
              refine ⟨hbu3.keepsFrom (by omega) (by omega), kp_but hbu3 (by omega), ?_, HBU.out.trans hbu3⟩
              rw [HLEN.out]
              exact best_new ((bs_take (by have := HNG.out; intro h; have := h.2; omega) (by rw [HX.out]; exact HP0.out)).trans (by rw [HX.out])) HWB.out (by omega) HpB.out HpF.out HOX.out (by omega) (by omega)
          have H01234567_ : ∀ W' : World, Below W.heap.size W W' → G 1 #[true, true, true, true, true, true, true, true, false] { tmps := #[.int .i64 n, .slice a zs.length c, undef, undef, .pointer (some ⟨w.heap.size, 0, none⟩), .bool false, .pointer (some ⟨w1.heap.size, 0, none⟩), .bool true, .bool true, .bool true, .pointer (some ⟨w2.heap.size, 0, none⟩), .pointer (some ⟨w2.heap.size + 1, 0, none⟩), .slice xp xs.length xq, undef, undef, .tuple #[.agg #[.slice pa zs.length pc, .slice la zs.length lc], .bool true], .int .i64 n, .slice a zs.length c, .tuple #[.agg #[.slice pa zs.length pc, .slice la zs.length lc], .bool true], .agg #[.slice pa zs.length pc, .slice la zs.length lc], .bool true, .tuple #[.bool true, .bool true], .int .i64 n, .slice a zs.length c, .tuple #[.bool true, .bool true], .bool true, .bool true, .bool true, .bool false, .bool false, .bool true, .bool false, .bool false, undef, .agg #[.slice none 0 0, .int .i64 0], .int .i64 n, .agg #[.int .i64 n, .int .i64 3], .func (.func 115) #[] #[.pointer (some ⟨w2.heap.size + 1 + 1, 0, none⟩)], .slice xp xs.length xq, .bool true, .bool true, .slice xp xs.length xq, .int .i64 sx, .pointer (some ⟨w2.heap.size, 0, none⟩), .slice vp (bs n zs (wts n) pre.length).1.length vq, .int .i64 sb, .bool false, undef, undef, undef, undef, undef, undef, undef, undef, undef, undef, undef, undef, undef], defers := [] } W' := by
            intro W' hW'
            rw [hG]
            refine wpAnyIn_ready (rs := [8]) (by kernel_rfl) (by simp) ?_
            refine AllReadyIn.cons rfl (fun K hK => ?_) ?_
            · go_simp
              refine hK _ _ ?_
              rw [← hG]
              exact H012345678_ _ hW'
            exact AllReadyIn.nil
          have H0123456_ : ∀ W' : World, Below W.heap.size W W' → G 2 #[true, true, true, true, true, true, true, false, false] { tmps := #[.int .i64 n, .slice a zs.length c, undef, undef, .pointer (some ⟨w.heap.size, 0, none⟩), .bool false, .pointer (some ⟨w1.heap.size, 0, none⟩), .bool true, .bool true, .bool true, .pointer (some ⟨w2.heap.size, 0, none⟩), .pointer (some ⟨w2.heap.size + 1, 0, none⟩), .slice xp xs.length xq, undef, undef, .tuple #[.agg #[.slice pa zs.length pc, .slice la zs.length lc], .bool true], .int .i64 n, .slice a zs.length c, .tuple #[.agg #[.slice pa zs.length pc, .slice la zs.length lc], .bool true], .agg #[.slice pa zs.length pc, .slice la zs.length lc], .bool true, .tuple #[.bool true, .bool true], .int .i64 n, .slice a zs.length c, .tuple #[.bool true, .bool true], .bool true, .bool true, .bool true, .bool false, .bool false, .bool true, .bool false, .bool false, undef, .agg #[.slice none 0 0, .int .i64 0], .int .i64 n, .agg #[.int .i64 n, .int .i64 3], .func (.func 115) #[] #[.pointer (some ⟨w2.heap.size + 1 + 1, 0, none⟩)], .slice xp xs.length xq, .bool true, .bool true, .slice xp xs.length xq, .int .i64 sx, .pointer (some ⟨w2.heap.size, 0, none⟩), .slice vp (bs n zs (wts n) pre.length).1.length vq, .int .i64 sb, undef, undef, undef, undef, undef, undef, undef, undef, undef, undef, undef, undef, undef, undef], defers := [] } W' := by
            intro W' hW'
            rw [hG]
            refine wpAnyIn_ready (rs := [7]) (by kernel_rfl) (by simp) ?_
            refine AllReadyIn.cons rfl (fun K hK => ?_) ?_
            · go_simp
              refine hK _ _ ?_
              rw [← hG]
              exact H01234567_ _ hW'
            exact AllReadyIn.nil
          have H012345_ : ∀ W' : World, Below W.heap.size W W' → G 3 #[true, true, true, true, true, true, false, false, false] { tmps := #[.int .i64 n, .slice a zs.length c, undef, undef, .pointer (some ⟨w.heap.size, 0, none⟩), .bool false, .pointer (some ⟨w1.heap.size, 0, none⟩), .bool true, .bool true, .bool true, .pointer (some ⟨w2.heap.size, 0, none⟩), .pointer (some ⟨w2.heap.size + 1, 0, none⟩), .slice xp xs.length xq, undef, undef, .tuple #[.agg #[.slice pa zs.length pc, .slice la zs.length lc], .bool true], .int .i64 n, .slice a zs.length c, .tuple #[.agg #[.slice pa zs.length pc, .slice la zs.length lc], .bool true], .agg #[.slice pa zs.length pc, .slice la zs.length lc], .bool true, .tuple #[.bool true, .bool true], .int .i64 n, .slice a zs.length c, .tuple #[.bool true, .bool true], .bool true, .bool true, .bool true, .bool false, .bool false, .bool true, .bool false, .bool false, undef, .agg #[.slice none 0 0, .int .i64 0], .int .i64 n, .agg #[.int .i64 n, .int .i64 3], .func (.func 115) #[] #[.pointer (some ⟨w2.heap.size + 1 + 1, 0, none⟩)], .slice xp xs.length xq, .bool true, .bool true, .slice xp xs.length xq, .int .i64 sx, .pointer (some ⟨w2.heap.size, 0, none⟩), .slice vp (bs n zs (wts n) pre.length).1.length vq, undef, undef, undef, undef, undef, undef, undef, undef, undef, undef, undef, undef, undef, undef, undef], defers := [] } W' := by
            intro W' hW'
            rw [hG]
            refine wpAnyIn_ready (rs := [6]) (by kernel_rfl) (by simp) ?_
            refine AllReadyIn.cons rfl (fun K hK => ?_) ?_
            · go_simp
              refine ⟨trivial, ?_⟩
              refine (CallsIn.inRound l (callsIn_wide.2 (HZB.out W' hW'))).mono ?_
              rintro e wq ⟨rfl, hbq⟩
              refine hK _ _ ?_
              rw [← hG]
              exact H0123456_ wq (hW'.trans (hbq.mono hW'.size))
            exact AllReadyIn.nil
          have H01234_ : ∀ W' : World, Below W.heap.size W W' → G 4 #[true, true, true, true, true, false, false, false, false] { tmps := #[.int .i64 n, .slice a zs.length c, undef, undef, .pointer (some ⟨w.heap.size, 0, none⟩), .bool false, .pointer (some ⟨w1.heap.size, 0, none⟩), .bool true, .bool true, .bool true, .pointer (some ⟨w2.heap.size, 0, none⟩), .pointer (some ⟨w2.heap.size + 1, 0, none⟩), .slice xp xs.length xq, undef, undef, .tuple #[.agg #[.slice pa zs.length pc, .slice la zs.length lc], .bool true], .int .i64 n, .slice a zs.length c, .tuple #[.agg #[.slice pa zs.length pc, .slice la zs.length lc], .bool true], .agg #[.slice pa zs.length pc, .slice la zs.length lc], .bool true, .tuple #[.bool true, .bool true], .int .i64 n, .slice a zs.length c, .tuple #[.bool true, .bool true], .bool true, .bool true, .bool true, .bool false, .bool false, .bool true, .bool false, .bool false, undef, .agg #[.slice none 0 0, .int .i64 0], .int .i64 n, .agg #[.int .i64 n, .int .i64 3], .func (.func 115) #[] #[.pointer (some ⟨w2.heap.size + 1 + 1, 0, none⟩)], .slice xp xs.length xq, .bool true, .bool true, .slice xp xs.length xq, .int .i64 sx, .pointer (some ⟨w2.heap.size, 0, none⟩), undef, undef, undef, undef, undef, undef, undef, undef, undef, undef, undef, undef, undef, undef, undef, undef], defers := [] } W' := by
            intro W' hW'
            have cF' := cell_below hW' cF (by omega)
            have cB' := cell_below hW' cB (by omega)
            rw [hG]
            refine wpAnyIn_ready (rs := [5]) (by kernel_rfl) (by simp) ?_
            refine AllReadyIn.cons rfl (fun K hK => ?_) ?_
            · go_simp
              refine hK _ _ ?_
              rw [← hG]
              exact H012345_ _ hW'
            exact AllReadyIn.nil
          have H01245_ : ∀ W' : World, Below W.heap.size W W' → G 4 #[true, true, true, false, true, true, false, false, false] { tmps := #[.int .i64 n, .slice a zs.length c, undef, undef, .pointer (some ⟨w.heap.size, 0, none⟩), .bool false, .pointer (some ⟨w1.heap.size, 0, none⟩), .bool true, .bool true, .bool true, .pointer (some ⟨w2.heap.size, 0, none⟩), .pointer (some ⟨w2.heap.size + 1, 0, none⟩), .slice xp xs.length xq, undef, undef, .tuple #[.agg #[.slice pa zs.length pc, .slice la zs.length lc], .bool true], .int .i64 n, .slice a zs.length c, .tuple #[.agg #[.slice pa zs.length pc, .slice la zs.length lc], .bool true], .agg #[.slice pa zs.length pc, .slice la zs.length lc], .bool true, .tuple #[.bool true, .bool true], .int .i64 n, .slice a zs.length c, .tuple #[.bool true, .bool true], .bool true, .bool true, .bool true, .bool false, .bool false, .bool true, .bool false, .bool false, undef, .agg #[.slice none 0 0, .int .i64 0], .int .i64 n, .agg #[.int .i64 n, .int .i64 3], .func (.func 115) #[] #[.pointer (some ⟨w2.heap.size + 1 + 1, 0, none⟩)], .slice xp xs.length xq, .bool true, .bool true, .slice xp xs.length xq, undef, .pointer (some ⟨w2.heap.size, 0, none⟩), .slice vp (bs n zs (wts n) pre.length).1.length vq, undef, undef, undef, undef, undef, undef, undef, undef, undef, undef, undef, undef, undef, undef, undef], defers := [] } W' := by
            intro W' hW'
            rw [hG]
            refine wpAnyIn_ready (rs := [3]) (by kernel_rfl) (by simp) ?_
            refine AllReadyIn.cons rfl (fun K hK => ?_) ?_
            · go_simp
              refine ⟨trivial, ?_⟩
              refine (CallsIn.inRound l (callsIn_wide.2 (HZX.out W' hW'))).mono ?_
              rintro e wq ⟨rfl, hbq⟩
              refine hK _ _ ?_
              rw [← hG]
              exact H012345_ wq (hW'.trans (hbq.mono hW'.size))
            exact AllReadyIn.nil
          have H0123_ : ∀ W' : World, Below W.heap.size W W' → G 5 #[true, true, true, true, false, false, false, false, false] { tmps := #[.int .i64 n, .slice a zs.length c, undef, undef, .pointer (some ⟨w.heap.size, 0, none⟩), .bool false, .pointer (some ⟨w1.heap.size, 0, none⟩), .bool true, .bool true, .bool true, .pointer (some ⟨w2.heap.size, 0, none⟩), .pointer (some ⟨w2.heap.size + 1, 0, none⟩), .slice xp xs.length xq, undef, undef, .tuple #[.agg #[.slice pa zs.length pc, .slice la zs.length lc], .bool true], .int .i64 n, .slice a zs.length c, .tuple #[.agg #[.slice pa zs.length pc, .slice la zs.length lc], .bool true], .agg #[.slice pa zs.length pc, .slice la zs.length lc], .bool true, .tuple #[.bool true, .bool true], .int .i64 n, .slice a zs.length c, .tuple #[.bool true, .bool true], .bool true, .bool true, .bool true, .bool false, .bool false, .bool true, .bool false, .bool false, undef, .agg #[.slice none 0 0, .int .i64 0], .int .i64 n, .agg #[.int .i64 n, .int .i64 3], .func (.func 115) #[] #[.pointer (some ⟨w2.heap.size + 1 + 1, 0, none⟩)], .slice xp xs.length xq, .bool true, .bool true, .slice xp xs.length xq, .int .i64 sx, undef, undef, undef, undef, undef, undef, undef, undef, undef, undef, undef, undef, undef, undef, undef, undef, undef], defers := [] } W' := by
            intro W' hW'
            have cF' := cell_below hW' cF (by omega)
            have cB' := cell_below hW' cB (by omega)
            rw [hG]
            refine wpAnyIn_ready (rs := [4]) (by kernel_rfl) (by simp) ?_
            refine AllReadyIn.cons rfl (fun K hK => ?_) ?_
            · go_simp
              refine hK _ _ ?_
              rw [← hG]
              exact H01234_ _ hW'
            exact AllReadyIn.nil
          have H0124_ : ∀ W' : World, Below W.heap.size W W' → G 5 #[true, true, true, false, true, false, false, false, false] { tmps := #[.int .i64 n, .slice a zs.length c, undef, undef, .pointer (some ⟨w.heap.size, 0, none⟩), .bool false, .pointer (some ⟨w1.heap.size, 0, none⟩), .bool true, .bool true, .bool true, .pointer (some ⟨w2.heap.size, 0, none⟩), .pointer (some ⟨w2.heap.size + 1, 0, none⟩), .slice xp xs.length xq, undef, undef, .tuple #[.agg #[.slice pa zs.length pc, .slice la zs.length lc], .bool true], .int .i64 n, .slice a zs.length c, .tuple #[.agg #[.slice pa zs.length pc, .slice la zs.length lc], .bool true], .agg #[.slice pa zs.length pc, .slice la zs.length lc], .bool true, .tuple #[.bool true, .bool true], .int .i64 n, .slice a zs.length c, .tuple #[.bool true, .bool true], .bool true, .bool true, .bool true, .bool false, .bool false, .bool true, .bool false, .bool false, undef, .agg #[.slice none 0 0, .int .i64 0], .int .i64 n, .agg #[.int .i64 n, .int .i64 3], .func (.func 115) #[] #[.pointer (some ⟨w2.heap.size + 1 + 1, 0, none⟩)], .slice xp xs.length xq, .bool true, .bool true, .slice xp xs.length xq, undef, .pointer (some ⟨w2.heap.size, 0, none⟩), undef, undef, undef, undef, undef, undef, undef, undef, undef, undef, undef, undef, undef, undef, undef, undef], defers := [] } W' := by
            intro W' hW'
            have cF' := cell_below hW' cF (by omega)
            have cB' := cell_below hW' cB (by omega)
            rw [hG]
            refine wpAnyIn_ready (rs := [3, 5]) (by kernel_rfl) (by simp) ?_
            refine AllReadyIn.cons rfl (fun K hK => ?_) ?_
            · go_simp
              refine ⟨trivial, ?_⟩
              refine (CallsIn.inRound l (callsIn_wide.2 (HZX.out W' hW'))).mono ?_
              rintro e wq ⟨rfl, hbq⟩
              refine hK _ _ ?_
              rw [← hG]
              exact H01234_ wq (hW'.trans (hbq.mono hW'.size))
            refine AllReadyIn.cons rfl (fun K hK => ?_) ?_
            · go_simp
              refine hK _ _ ?_
              rw [← hG]
              exact H01245_ _ hW'
            exact AllReadyIn.nil
          have H0145_ : ∀ W' : World, Below W.heap.size W W' → G 5 #[true, true, false, false, true, true, false, false, false] { tmps := #[.int .i64 n, .slice a zs.length c, undef, undef, .pointer (some ⟨w.heap.size, 0, none⟩), .bool false, .pointer (some ⟨w1.heap.size, 0, none⟩), .bool true, .bool true, .bool true, .pointer (some ⟨w2.heap.size, 0, none⟩), .pointer (some ⟨w2.heap.size + 1, 0, none⟩), .slice xp xs.length xq, undef, undef, .tuple #[.agg #[.slice pa zs.length pc, .slice la zs.length lc], .bool true], .int .i64 n, .slice a zs.length c, .tuple #[.agg #[.slice pa zs.length pc, .slice la zs.length lc], .bool true], .agg #[.slice pa zs.length pc, .slice la zs.length lc], .bool true, .tuple #[.bool true, .bool true], .int .i64 n, .slice a zs.length c, .tuple #[.bool true, .bool true], .bool true, .bool true, .bool true, .bool false, .bool false, .bool true, .bool false, .bool false, undef, .agg #[.slice none 0 0, .int .i64 0], .int .i64 n, .agg #[.int .i64 n, .int .i64 3], .func (.func 115) #[] #[.pointer (some ⟨w2.heap.size + 1 + 1, 0, none⟩)], .slice xp xs.length xq, .bool true, .bool true, undef, undef, .pointer (some ⟨w2.heap.size, 0, none⟩), .slice vp (bs n zs (wts n) pre.length).1.length vq, undef, undef, undef, undef, undef, undef, undef, undef, undef, undef, undef, undef, undef, undef, undef], defers := [] } W' := by
            intro W' hW'
            rw [hG]
            refine wpAnyIn_ready (rs := [2]) (by kernel_rfl) (by simp) ?_
            refine AllReadyIn.cons rfl (fun K hK => ?_) ?_
            · go_simp
              refine hK _ _ ?_
              rw [← hG]
              exact H01245_ _ hW'
            exact AllReadyIn.nil
          have H012_ : ∀ W' : World, Below W.heap.size W W' → G 6 #[true, true, true, false, false, false, false, false, false] { tmps := #[.int .i64 n, .slice a zs.length c, undef, undef, .pointer (some ⟨w.heap.size, 0, none⟩), .bool false, .pointer (some ⟨w1.heap.size, 0, none⟩), .bool true, .bool true, .bool true, .pointer (some ⟨w2.heap.size, 0, none⟩), .pointer (some ⟨w2.heap.size + 1, 0, none⟩), .slice xp xs.length xq, undef, undef, .tuple #[.agg #[.slice pa zs.length pc, .slice la zs.length lc], .bool true], .int .i64 n, .slice a zs.length c, .tuple #[.agg #[.slice pa zs.length pc, .slice la zs.length lc], .bool true], .agg #[.slice pa zs.length pc, .slice la zs.length lc], .bool true, .tuple #[.bool true, .bool true], .int .i64 n, .slice a zs.length c, .tuple #[.bool true, .bool true], .bool true, .bool true, .bool true, .bool false, .bool false, .bool true, .bool false, .bool false, undef, .agg #[.slice none 0 0, .int .i64 0], .int .i64 n, .agg #[.int .i64 n, .int .i64 3], .func (.func 115) #[] #[.pointer (some ⟨w2.heap.size + 1 + 1, 0, none⟩)], .slice xp xs.length xq, .bool true, .bool true, .slice xp xs.length xq, undef, undef, undef, undef, undef, undef, undef, undef, undef, undef, undef, undef, undef, undef, undef, undef, undef, undef], defers := [] } W' := by
            intro W' hW'
            have cF' := cell_below hW' cF (by omega)
            have cB' := cell_below hW' cB (by omega)
            rw [hG]
            refine wpAnyIn_ready (rs := [3, 4]) (by kernel_rfl) (by simp) ?_
            refine AllReadyIn.cons rfl (fun K hK => ?_) ?_
            · go_simp
              refine ⟨trivial, ?_⟩
              refine (CallsIn.inRound l (callsIn_wide.2 (HZX.out W' hW'))).mono ?_
              rintro e wq ⟨rfl, hbq⟩
              refine hK _ _ ?_
              rw [← hG]
              exact H0123_ wq (hW'.trans (hbq.mono hW'.size))
            refine AllReadyIn.cons rfl (fun K hK => ?_) ?_
            · go_simp
              refine hK _ _ ?_
              rw [← hG]
              exact H0124_ _ hW'
            exact AllReadyIn.nil
          have H014_ : ∀ W' : World, Below W.heap.size W W' → G 6 #[true, true, false, false, true, false, false, false, false] { tmps := #[.int .i64 n, .slice a zs.length c, undef, undef, .pointer (some ⟨w.heap.size, 0, none⟩), .bool false, .pointer (some ⟨w1.heap.size, 0, none⟩), .bool true, .bool true, .bool true, .pointer (some ⟨w2.heap.size, 0, none⟩), .pointer (some ⟨w2.heap.size + 1, 0, none⟩), .slice xp xs.length xq, undef, undef, .tuple #[.agg #[.slice pa zs.length pc, .slice la zs.length lc], .bool true], .int .i64 n, .slice a zs.length c, .tuple #[.agg #[.slice pa zs.length pc, .slice la zs.length lc], .bool true], .agg #[.slice pa zs.length pc, .slice la zs.length lc], .bool true, .tuple #[.bool true, .bool true], .int .i64 n, .slice a zs.length c, .tuple #[.bool true, .bool true], .bool true, .bool true, .bool true, .bool false, .bool false, .bool true, .bool false, .bool false, undef, .agg #[.slice none 0 0, .int .i64 0], .int .i64 n, .agg #[.int .i64 n, .int .i64 3], .func (.func 115) #[] #[.pointer (some ⟨w2.heap.size + 1 + 1, 0, none⟩)], .slice xp xs.length xq, .bool true, .bool true, undef, undef, .pointer (some ⟨w2.heap.size, 0, none⟩), undef, undef, undef, undef, undef, undef, undef, undef, undef, undef, undef, undef, undef, undef, undef, undef], defers := [] } W' := by
            intro W' hW'
            have cF' := cell_below hW' cF (by omega)
            have cB' := cell_below hW' cB (by omega)
            rw [hG]
            refine wpAnyIn_ready (rs := [2, 5]) (by kernel_rfl) (by simp) ?_
            refine AllReadyIn.cons rfl (fun K hK => ?_) ?_
            · go_simp
              refine hK _ _ ?_
              rw [← hG]
              exact H0124_ _ hW'
            refine AllReadyIn.cons rfl (fun K hK => ?_) ?_
            · go_simp
              refine hK _ _ ?_
              rw [← hG]
              exact H0145_ _ hW'
            exact AllReadyIn.nil
          have H01_ : ∀ W' : World, Below W.heap.size W W' → G 7 #[true, true, false, false, false, false, false, false, false] { tmps := #[.int .i64 n, .slice a zs.length c, undef, undef, .pointer (some ⟨w.heap.size, 0, none⟩), .bool false, .pointer (some ⟨w1.heap.size, 0, none⟩), .bool true, .bool true, .bool true, .pointer (some ⟨w2.heap.size, 0, none⟩), .pointer (some ⟨w2.heap.size + 1, 0, none⟩), .slice xp xs.length xq, undef, undef, .tuple #[.agg #[.slice pa zs.length pc, .slice la zs.length lc], .bool true], .int .i64 n, .slice a zs.length c, .tuple #[.agg #[.slice pa zs.length pc, .slice la zs.length lc], .bool true], .agg #[.slice pa zs.length pc, .slice la zs.length lc], .bool true, .tuple #[.bool true, .bool true], .int .i64 n, .slice a zs.length c, .tuple #[.bool true, .bool true], .bool true, .bool true, .bool true, .bool false, .bool false, .bool true, .bool false, .bool false, undef, .agg #[.slice none 0 0, .int .i64 0], .int .i64 n, .agg #[.int .i64 n, .int .i64 3], .func (.func 115) #[] #[.pointer (some ⟨w2.heap.size + 1 + 1, 0, none⟩)], .slice xp xs.length xq, .bool true, .bool true, undef, undef, undef, undef, undef, undef, undef, undef, undef, undef, undef, undef, undef, undef, undef, undef, undef, undef, undef], defers := [] } W' := by
            intro W' hW'
            have cF' := cell_below hW' cF (by omega)
            have cB' := cell_below hW' cB (by omega)
            rw [hG]
            refine wpAnyIn_ready (rs := [2, 4]) (by kernel_rfl) (by simp) ?_
            refine AllReadyIn.cons rfl (fun K hK => ?_) ?_
            · go_simp
              refine hK _ _ ?_
              rw [← hG]
              exact H012_ _ hW'
            refine AllReadyIn.cons rfl (fun K hK => ?_) ?_
            · go_simp
              refine hK _ _ ?_
              rw [← hG]
              exact H014_ _ hW'
            exact AllReadyIn.nil
          have H0_ : ∀ W' : World, Below W.heap.size W W' → G 8 #[true, false, false, false, false, false, false, false, false] { tmps := #[.int .i64 n, .slice a zs.length c, undef, undef, .pointer (some ⟨w.heap.size, 0, none⟩), .bool false, .pointer (some ⟨w1.heap.size, 0, none⟩), .bool true, .bool true, .bool true, .pointer (some ⟨w2.heap.size, 0, none⟩), .pointer (some ⟨w2.heap.size + 1, 0, none⟩), .slice xp xs.length xq, undef, undef, .tuple #[.agg #[.slice pa zs.length pc, .slice la zs.length lc], .bool true], .int .i64 n, .slice a zs.length c, .tuple #[.agg #[.slice pa zs.length pc, .slice la zs.length lc], .bool true], .agg #[.slice pa zs.length pc, .slice la zs.length lc], .bool true, .tuple #[.bool true, .bool true], .int .i64 n, .slice a zs.length c, .tuple #[.bool true, .bool true], .bool true, .bool true, .bool true, .bool false, .bool false, .bool true, .bool false, .bool false, undef, .agg #[.slice none 0 0, .int .i64 0], .int .i64 n, .agg #[.int .i64 n, .int .i64 3], .func (.func 115) #[] #[.pointer (some ⟨w2.heap.size + 1 + 1, 0, none⟩)], .slice xp xs.length xq, .bool true, undef, undef, undef, undef, undef, undef, undef, undef, undef, undef, undef, undef, undef, undef, undef, undef, undef, undef, undef, undef], defers := [] } W' := by
            intro W' hW'
            have cF' := cell_below hW' cF (by omega)
            have cB' := cell_below hW' cB (by omega)
            rw [hG]
            refine wpAnyIn_ready (rs := [1]) (by kernel_rfl) (by simp) ?_
            refine AllReadyIn.cons rfl (fun K hK => ?_) ?_
            · go_simp
              refine hK _ _ ?_
              rw [← hG]
              exact H01_ _ hW'
            exact AllReadyIn.nil
          have hW' : Below W.heap.size W W.drew := (Below.refl _ W).drew
          have cF' := cell_below hW' cF (by omega)
          have cB' := cell_below hW' cB (by omega)
          rw [hG]
          refine wpAnyIn_ready (rs := [0]) (by kernel_rfl) (by simp) ?_
          refine AllReadyIn.cons rfl (fun K hK => ?_) ?_
          · go_simp
            refine hK _ _ ?_
            rw [← hG]
            exact H0_ _ hW'
          exact AllReadyIn.nil
end Go.Proofs.Ytoephhhofkmgjab.leasti
