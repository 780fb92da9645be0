/- Several texts in one. -/
import Derived.Lib.Hide
import Derived.LoopIn
import Derived.LoopNIn
import Derived.Maps.AppendAt
import Derived.OwnWalkIn
import Derived.RangeFuncBound
import Derived.RangeFuncBox
import Derived.RangeFuncCalls
import Derived.RangeFuncLeaves
import Derived.RangeFuncNested
import Derived.Shelf.Abstract
import Derived.Shelf.RegionOpen
import Derived.TacticsInMore
import Derived.WalkKit
import Derived.BigQuiet
import Derived.Test.YtoephhhofkmgjabSpG35
import Derived.Test.YtoephhhofkmgjabSpG15
import Derived.Test.YtoephhhofkmgjabSpG26
import Derived.Test.YtoephhhofkmgjabSpG18
namespace Go.Proofs.Ytoephhhofkmgjab.firstw
open Go Go.RowKit Go.Shelf own prs plin pairw trade range tab
set_option linter.unusedVariables false
set_option linter.unusedSimpArgs false
attribute [local go_sem] Oper.semAt_some

theorem keepsFrom_of_below {B : Nat} {W W' : World} (h : Below W.heap.size W W') : KeepsFrom B W W' := ⟨h.size, fun k o _ hk _ => (h.block k (Array.getElem?_eq_some_iff.1 hk).1).trans hk⟩
theorem ownFrom_ex {α β : Type} {B : Nat} {I : α → β → World → Prop} (h : ∀ y, OwnFrom B (I y)) : OwnFrom B (fun s W => ∃ y, I y s W) :=
  fun s W W' row ⟨y, hy⟩ hg hr => ⟨y, h y s W W' row hy hg hr⟩
theorem boxed_below {W W' : World} {N B : Nat} {t : TypeId} {v : Value} (h : Boxed W B t v) (hb : Below N W W') (hB : B < N) : Boxed W' B t v := (hb.block B hB).trans h
/-- The same sums. -/
def eqS (p q : Pl × Pl) : Bool := decide ((ds p.1.val p.2.val 0 = ds q.1.val q.2.val 0 ∧ ds p.1.val p.2.val 1 = ds q.1.val q.2.val 1) ∧ (ds p.1.val p.2.val 2 = ds q.1.val q.2.val 2 ∧ ds p.1.val p.2.val 3 = ds q.1.val q.2.val 3))
def res (p q : Pl × Pl) : List Int := [((p.1.val : Nat) : Int), ((p.2.val : Nat) : Int), ((q.1.val : Nat) : Int), ((q.2.val : Nat) : Int)]
/-- What the search finds among the pairs of two lists. -/
def Finds (ones others : List Pl) (out : List Int) (ok : Bool) : Prop :=
  (ok = true ∧ ∃ pre x pre2 q, (pre ++ [x] <+: prs ones) ∧ (∀ p ∈ pre, ∀ r ∈ prs others, eqS p r = false) ∧ (pre2 ++ [q] <+: prs others) ∧ (∀ r ∈ pre2, eqS x r = false) ∧ eqS x q = true ∧ out = res x q) ∨
  (ok = false ∧ out = [] ∧ ∀ p ∈ prs ones, ∀ r ∈ prs others, eqS p r = false)
set_option maxRecDepth 100000 in
set_option maxHeartbeats 4000000 in
theorem first_in (n : Nat) (hn : 6 ≤ n) (a : Option Addr) (zs : List Int) (c : Nat) (w : World) (hr : ints.Reads .i64 w a zs) (h16 : zs.length ≤ 16) (ones oth : List Pl) (HON : Hid (ones.length ≤ 16)) (HOT : Hid (oth.length ≤ 16)) (h1 : Hid (placesTo (fun k => decide (0 < zs.getD k 0)) zs.length = vals ones)) (h2 : Hid (placesTo (fun k => zs.getD k 0 == 0) zs.length = vals oth)) :
    CallsIn Fence.wide n Try.prog 75 #[.slice a zs.length c] w fun e W' => ∃ v out ok, e = .returned (.tuple #[v, .bool ok]) ∧ OwnI w.heap.size W'.heap.size W' v out ∧ Finds ones oth out ok ∧ Below w.heap.size w W' := by
  have hn1 : 1 ≤ n := by omega
  have HR := Lib.hid hr
  clear hr
  refine callsIn_of_wp_marks Try.func75 rfl trivial ?_ rfl
  simp only [Try.ntmps75, List.size_toArray, List.length_cons, List.length_nil, Nat.reduceAdd, Nat.reduceSub, Array.replicate_succ, Array.replicate_zero, List.push_toArray, List.append_toArray, List.nil_append, List.cons_append]
  obtain ⟨w0, hw0⟩ : ∃ w0 : World, w0 = ((w.alloc (.cells #[.slice a zs.length c] 22)).alloc (.cells #[.slice none 0 0] 22)).alloc (.cells #[.bool false] 4) := ⟨_, rfl⟩
  have bT : Boxed w0 w.heap.size 22 (.slice a zs.length c) := by rw [hw0]; exact ((Boxed.new w _ _).alloc _).alloc _
  have bR : Boxed w0 (w.heap.size + 1) 22 (.slice none 0 0) := by
    rw [hw0]
    have := (Boxed.new (w.alloc (.cells #[.slice a zs.length c] 22)) 22 (.slice none 0 0)).alloc (.cells #[.bool false] 4)
    rwa [World.size_alloc] at this
  have bO : Boxed w0 (w.heap.size + 1 + 1) 4 (.bool false) := by
    rw [hw0]
    have := Boxed.new ((w.alloc (.cells #[.slice a zs.length c] 22)).alloc (.cells #[.slice none 0 0] 22)) 4 (.bool false)
    rwa [World.size_alloc, World.size_alloc] at this
  have hB0 : Below w.heap.size w w0 := by rw [hw0]; exact (((Below.refl _ w).alloc (Nat.le_refl _) _).alloc (by simp) _).alloc (by simp; omega) _
  have hz0 : w0.heap.size = w.heap.size + 3 := by rw [hw0]; simp
  have HB0 := Lib.hid hB0
  have HbT := Lib.hid bT
  have HbR := Lib.hid bR
  have HbO := Lib.hid bO
  have HZ0 := Lib.hid hz0
  have cT := bT.cell
  clear hB0 bT bR bO hz0
  gi_wp2
  rw [← hw0]
  clear hw0
  refine ⟨trivial, ?_⟩
  refine (callsIn_wide.2 (others.other_places zs.length (.pointer (some ⟨w.heap.size, 0, none⟩)) (fun k => zs.getD k 0 == 0) w0 (by omega) (Lib.hid (fun k wr hk hb => others.other_closure k _ a zs c wr (hb.cell (p := ⟨w.heap.size, 0, none⟩) (by have := HZ0.out; show w.heap.size < _; omega) |>.trans HbT.out.cell) ((HR.out.below HB0.out).below hb) hk (by omega) _ rfl)))).mono ?_
  rintro e w1 ⟨v1, rfl, hov1, hb1⟩
  rw [h2.out] at hov1
  obtain ⟨po, co, hv1, hro, hco, _⟩ := hov1.slice
  subst hv1
  have HB1 := Lib.hid (HB0.out.trans (hb1.mono HB0.out.size))
  have HRO := Lib.hid hro
  have cT1 := (hb1.cell (p := ⟨w.heap.size, 0, none⟩) (by have := HZ0.out; show w.heap.size < _; omega)).trans HbT.out.cell
  have HK1 := Lib.hid hb1
  have hz1 := hb1.size
  have HCO := Lib.hid hco
  have HLO := Lib.hid hro.low
  rw [vals_length] at HCO HLO ⊢
  have xf : (w1.alloc (.cells #[.slice none 0 0] 22)).frozen? ⟨w1.heap.size, 0, none⟩ = false := fro_new _ _ _ rfl
  have xc : (w1.alloc (.cells #[.slice none 0 0] 22)).cell? ⟨w1.heap.size, 0, none⟩ = some (.slice none 0 0) := cell_new _ _ _ rfl rfl
  clear cT hov1 hb1 hro hco
  have cT2 := cell_old (.cells #[.slice po oth.length co] 22) cT1
  gi_wp2
  have HBA := Lib.hid (HB1.out.alloc HB1.out.size (.cells #[.slice po oth.length co] 22))
  have bOth := Boxed.new w1 22 (.slice po oth.length co)
  obtain ⟨w2, hw2⟩ : ∃ w2 : World, w2 = w1.alloc (.cells #[.slice po oth.length co] 22) := ⟨_, rfl⟩
  have hsz2 : w2.heap.size = w1.heap.size + 1 := by rw [hw2]; simp
  rw [← hw2] at HBA bOth cT2 ⊢
  have HK2 := Lib.hid (show Below w0.heap.size w0 w2 by rw [hw2]; exact HK1.out.alloc HK1.out.size _)
  have HRO2 := Lib.hid (show ints.Reads .i64 w2 po (vals oth) by rw [hw2]; exact HRO.out.below (below_alloc w1 _))
  clear hw2 xf xc HRO
  refine ⟨trivial, ?_⟩
  refine (callsIn_wide.2 (plin.impl_in a zs c w2 (HR.out.below HBA.out) (by omega))).mono ?_
  rintro e w3 ⟨v3, rfl, hov3, hb3⟩
  rw [h1.out] at hov3
  obtain ⟨pn, cn, hv3, hrn, hcn, _⟩ := hov3.slice
  subst hv3
  rw [vals_length] at hcn ⊢
  have HB3 := Lib.hid (HBA.out.trans (hb3.mono HBA.out.size))
  have HRN := Lib.hid hrn
  have HCN := Lib.hid hcn
  have HLN := Lib.hid (show ints.Low w3.heap.size pn ones.length by have := hrn.low; rwa [vals_length] at this)
  have HK3 := Lib.hid hb3
  have hz3 := hb3.size
  clear hov3 hb3 hrn hcn cT1 cT2
  gi_wp2_with (refine ⟨trivial, ?_⟩; gi_at_call 107; refine (pairs_in (n - 1) _ _ _ _).mono ?_; rintro e w' ⟨rfl, rfl⟩)
  have bOn := Boxed.new w3 22 (.slice pn ones.length cn)
  obtain ⟨wl, hwl⟩ : ∃ wl : World, wl = w3.alloc (.cells #[.slice pn ones.length cn] 22) := ⟨_, rfl⟩
  have hszl : wl.heap.size = w3.heap.size + 1 := by rw [hwl]; simp
  rw [← hwl] at bOn ⊢
  have HKL := Lib.hid (show Below w0.heap.size w0 wl by rw [hwl]; exact (HK2.out.trans (HK3.out.mono HK2.out.size)).alloc (HK2.out.trans (HK3.out.mono HK2.out.size)).size _)
  have HK2L := Lib.hid (show Below w2.heap.size w2 wl by rw [hwl]; exact HK3.out.alloc HK3.out.size _)
  have HBL := Lib.hid (show Below w.heap.size w wl by rw [hwl]; exact HB3.out.alloc HB3.out.size _)
  have HRNL := Lib.hid (show ints.Reads .i64 wl pn (vals ones) by rw [hwl]; exact HRN.out.below (below_alloc w3 _))
  have HROL := Lib.hid (HRO2.out.below HK2L.out)
  have HbOn := Lib.hid bOn
  have HbRL := Lib.hid (boxed_below HbR.out HKL.out (by have := HZ0.out; omega))
  have HbOL := Lib.hid (boxed_below HbO.out HKL.out (by have := HZ0.out; omega))
  have HbOth := Lib.hid (boxed_below bOth HK2L.out (by omega))
  have hz0 := HZ0.out
  clear hwl HRN HRO2 HB3 HBA bOth bOn HK3 HK2
  have hwl3 : w.heap.size + 3 ≤ wl.heap.size := by omega
  have hw1l : w1.heap.size < wl.heap.size := by omega
  have hw3l : w3.heap.size < wl.heap.size := by omega
  refine wpIn_rangeFunc_ownH (F := Fence.wide) rfl hn1 (gf := 132) (lb := #[.pointer (some ⟨w3.heap.size, 0, none⟩)]) rfl trivial (enters_of Try.func132 (by kernel_rfl) rfl)
    (prs.stops (n - 1) (by omega) w3.heap.size wl.heap.size pn ones cn HON.out HCN.out wl (by omega) (Nat.le_refl _) HbOn.out.cell HRNL.out (by rw [vals_length]; exact HLN.out.mono (Nat.le_of_lt hw3l))) belowK_t (belowK_b (Nat.le_refl _)) (Below.refl _ _) (fun _ => rfl)
    (fun pre W => (∀ p ∈ pre, ∀ r ∈ prs.prs oth, eqS p r = false) ∧ Below wl.heap.size wl W)
    (fun c pre W => ∃ xq : (Pl × Pl) × (Pl × Pl), (c = .ret ∧ ∃ pre0 pre2, pre = pre0 ++ [xq.1] ∧ (∀ p ∈ pre0, ∀ r ∈ prs.prs oth, eqS p r = false) ∧ (pre2 ++ [xq.2] <+: prs.prs oth) ∧ (∀ r ∈ pre2, eqS xq.1 r = false) ∧ eqS xq.1 xq.2 = true) ∧ ((∃ v, Boxed W (w.heap.size + 1) 22 v ∧ W.ownsRow w.heap.size 3 1 v 4 ((res xq.1 xq.2).map (Value.int .i64)) ∧ True) ∧ (Boxed W (w.heap.size + 1 + 1) 4 (.bool true) ∧ Below w.heap.size w W)))
    (OwnFrom.and (ownFrom_pure _ _) (ownFrom_below (Nat.le_refl _) (Nat.le_refl _)))
    (fun c => ownFrom_ex fun xq => OwnFrom.and (ownFrom_pure _ _) (OwnFrom.and (Own.from (holdsRow_own w.heap.size (w.heap.size + 1) 22 3 1 (fun _ => 4) (fun _ => (res xq.1 xq.2).map (Value.int .i64)) (fun _ _ => True)) _) (OwnFrom.and (Own.from (boxed_own _ _ _) _) (ownFrom_below (Nat.le_refl _) (by omega)))))
    ⟨by simp, Below.refl _ _⟩
    (fun x a' W => ∃ Bx By, (wl.heap.size ≤ Bx ∧ wl.heap.size ≤ By) ∧ (Boxed W Bx 3 (.int .i64 ((x.1.val : Nat) : Int)) ∧ Boxed W By 3 (.int .i64 ((x.2.val : Nat) : Int))) ∧ a' = { tmps := #[.slice a zs.length c, .pointer (some ⟨w.heap.size, 0, none⟩), .pointer (some ⟨w.heap.size + 1, 0, none⟩), .pointer (some ⟨w.heap.size + 1 + 1, 0, none⟩), .pointer (some ⟨w1.heap.size, 0, none⟩), .pointer (some ⟨Bx, 0, none⟩), .pointer (some ⟨By, 0, none⟩), undef, undef, undef, .slice a zs.length c, .int .i64 zs.length, .func (.func 106) #[] #[.pointer (some ⟨w.heap.size, 0, none⟩)], .slice po oth.length co, .slice a zs.length c, .slice pn ones.length cn, .func (.func 132) #[] #[.pointer (some ⟨w3.heap.size, 0, none⟩)], .int .i64 ((x.1.val : Nat) : Int), .int .i64 ((x.2.val : Nat) : Int), undef, undef, undef, undef, undef, undef, undef, undef, undef, undef, undef, undef, undef, undef, undef, undef, undef, undef], defers := [] })
    (fun x a' _ X Y row hs hg hr => by obtain ⟨Bx, By, e1, ⟨e2, e3⟩, e4⟩ := hs; exact ⟨Bx, By, e1, ⟨boxed_own Bx 3 (fun (_ : Unit) => Value.int .i64 ((x.1.val : Nat) : Int)) () X Y row e2 hg (fun r e => (hr r e).2), boxed_own By 3 (fun (_ : Unit) => Value.int .i64 ((x.2.val : Nat) : Int)) () X Y row e3 hg (fun r e => (hr r e).2)⟩, e4⟩)
    ?assign ?body ?done ?stop
  case assign =>
    rintro l pre x W K ⟨hp, hB1⟩ hK
    have HP := Lib.hid hp
    have HBW := Lib.hid hB1
    clear hp hB1
    dsimp only [encs]
    gi_wp2
    have hsW := HBW.out.size
    exact hK _ _ (((KeepsOthers.alloc _ _).trans (KeepsOthers.alloc _ _)).from _) (((Below.refl _ W).alloc hsW _).alloc (by simp; omega) _) ⟨HP.out, (HBW.out.alloc hsW _).alloc (by simp; omega) _⟩ ⟨W.heap.size, W.heap.size + 1, ⟨hsW, by omega⟩, ⟨(Boxed.new W _ _).alloc _, by have := Boxed.new (W.alloc (.cells #[.int .i64 ((x.1.val : Nat) : Int)] 3)) 3 (.int .i64 ((x.2.val : Nat) : Int)); rwa [World.size_alloc] at this⟩, rfl⟩
  case body =>
    rintro l pre x a' W hl ⟨r, hr⟩ ⟨hp, hB1⟩ ⟨Bx, By, ⟨hBx, hBy⟩, ⟨bX, bY⟩, rfl⟩ hlt
    have HP := Lib.hid hp
    have HBW := Lib.hid hB1
    have HbX := Lib.hid bX
    have HbY := Lib.hid bY
    have hsW := hB1.size
    have cX := bX.cell
    have cY := bY.cell
    have hlX := bX.lt
    have hlY := bY.lt
    have hlL := (Array.getElem?_eq_some_iff.1 hr).1
    have HRr := Lib.hid hr
    have h1' : 1 ≤ n - 1 - 1 := by omega
    clear hp hB1 bX bY hr
    gi_wp2
    refine ⟨trivial, ?_⟩
    refine (CallsIn.inRound l (callsIn_wide.2 (pair_sum x.1.val x.2.val W x.1.isLt x.2.isLt))).mono ?_
    rintro e wp ⟨rfl, hbp⟩
    have HBP := Lib.hid hbp
    have hsp := hbp.size
    clear hbp cX cY
    have f0 : (wp.alloc (.cells #[.int .i64 0, .int .i64 0, .int .i64 0, .int .i64 0] 125)).frozen? ⟨wp.heap.size, 0, none⟩ = false := fro_new _ _ _ rfl
    have f1 : (wp.alloc (.cells #[.int .i64 0, .int .i64 0, .int .i64 0, .int .i64 0] 125)).frozen? ⟨wp.heap.size, 1, none⟩ = false := fro_new _ _ _ rfl
    have f2 : (wp.alloc (.cells #[.int .i64 0, .int .i64 0, .int .i64 0, .int .i64 0] 125)).frozen? ⟨wp.heap.size, 2, none⟩ = false := fro_new _ _ _ rfl
    have f3 : (wp.alloc (.cells #[.int .i64 0, .int .i64 0, .int .i64 0, .int .i64 0] 125)).frozen? ⟨wp.heap.size, 3, none⟩ = false := fro_new _ _ _ rfl
    have x0 : (wp.alloc (.cells #[.int .i64 0, .int .i64 0, .int .i64 0, .int .i64 0] 125)).cell? ⟨wp.heap.size, 0, none⟩ = some (.int .i64 0) := cell_new _ _ _ rfl rfl
    have x1 : (wp.alloc (.cells #[.int .i64 0, .int .i64 0, .int .i64 0, .int .i64 0] 125)).cell? ⟨wp.heap.size, 1, none⟩ = some (.int .i64 0) := cell_new _ _ _ rfl rfl
    have x2 : (wp.alloc (.cells #[.int .i64 0, .int .i64 0, .int .i64 0, .int .i64 0] 125)).cell? ⟨wp.heap.size, 2, none⟩ = some (.int .i64 0) := cell_new _ _ _ rfl rfl
    have x3 : (wp.alloc (.cells #[.int .i64 0, .int .i64 0, .int .i64 0, .int .i64 0] 125)).cell? ⟨wp.heap.size, 3, none⟩ = some (.int .i64 0) := cell_new _ _ _ rfl rfl
    have cO := cell_old (.cells #[.int .i64 (ds x.1.val x.2.val 0), .int .i64 (ds x.1.val x.2.val 1), .int .i64 (ds x.1.val x.2.val 2), .int .i64 (ds x.1.val x.2.val 3)] 125) (boxed_below HbOth.out (HBW.out.trans (HBP.out.mono hsW)) hw1l).cell
    gi_wp2
    refine ⟨trivial, ?_⟩
    refine (CallsIn.inRound l (pairs_in (n - 1 - 1 - 1) _ _ _ _)).mono ?_
    rintro e w' ⟨rfl, rfl⟩
    gi_wp2
    clear f0 f1 f2 f3 x0 x1 x2 x3 cO
    obtain ⟨ws, hws⟩ : ∃ ws : World, ws = wp.alloc (.cells #[.int .i64 (ds x.1.val x.2.val 0), .int .i64 (ds x.1.val x.2.val 1), .int .i64 (ds x.1.val x.2.val 2), .int .i64 (ds x.1.val x.2.val 3)] 125) := ⟨_, rfl⟩
    have hss : ws.heap.size = wp.heap.size + 1 := by rw [hws]; simp
    have s0 : ws.cell? ⟨wp.heap.size, 0, none⟩ = some (.int .i64 (ds x.1.val x.2.val 0)) := by rw [hws]; exact cell_new _ _ _ rfl rfl
    have s1 : ws.cell? ⟨wp.heap.size, 1, none⟩ = some (.int .i64 (ds x.1.val x.2.val 1)) := by rw [hws]; exact cell_new _ _ _ rfl rfl
    have s2 : ws.cell? ⟨wp.heap.size, 2, none⟩ = some (.int .i64 (ds x.1.val x.2.val 2)) := by rw [hws]; exact cell_new _ _ _ rfl rfl
    have s3 : ws.cell? ⟨wp.heap.size, 3, none⟩ = some (.int .i64 (ds x.1.val x.2.val 3)) := by rw [hws]; exact cell_new _ _ _ rfl rfl
    have HWs := Lib.hid (show Below W.heap.size W ws by rw [hws]; exact HBP.out.alloc hsp _)
    rw [← hws]
    clear hws
    have bOi := Boxed.new ws 22 (.slice po oth.length co)
    have hbi := below_alloc ws (.cells #[.slice po oth.length co] 22)
    obtain ⟨wi, hwi⟩ : ∃ wi : World, wi = ws.alloc (.cells #[.slice po oth.length co] 22) := ⟨_, rfl⟩
    have hsi : wi.heap.size = ws.heap.size + 1 := by rw [hwi]; simp
    rw [← hwi] at bOi hbi ⊢
    clear hwi
    have HWi := Lib.hid (HWs.out.trans (hbi.mono HWs.out.size))
    have HS := Lib.hid (show wi.cell? ⟨wp.heap.size, 0, none⟩ = some (.int .i64 (ds x.1.val x.2.val 0)) ∧ wi.cell? ⟨wp.heap.size, 1, none⟩ = some (.int .i64 (ds x.1.val x.2.val 1)) ∧ wi.cell? ⟨wp.heap.size, 2, none⟩ = some (.int .i64 (ds x.1.val x.2.val 2)) ∧ wi.cell? ⟨wp.heap.size, 3, none⟩ = some (.int .i64 (ds x.1.val x.2.val 3)) from ⟨cell_below hbi s0 (by omega), cell_below hbi s1 (by omega), cell_below hbi s2 (by omega), cell_below hbi s3 (by omega)⟩)
    rw [hss] at bOi
    have HbOi := Lib.hid bOi
    have hsWi := HWi.out.size
    have HBWi := Lib.hid (HBW.out.trans (HWi.out.mono hsW))
    have hWi : W.heap.size < wi.heap.size := by omega
    clear s0 s1 s2 s3 hbi bOi
    have hr' : wi.heap[l]? = some (.loop r) := (HWi.out.block l hlL).trans HRr.out
    refine wpIn_rangeFunc_ownN (l₀ := l) (r₀ := r) rfl hr' h1' (gf := 132) (lb := #[.pointer (some ⟨wp.heap.size + 1, 0, none⟩)]) rfl trivial (enters_of Try.func132 (by kernel_rfl) rfl)
      ((prs.stops (n - 1 - 1 - 1) (by omega) (wp.heap.size + 1) wi.heap.size po oth co HOT.out HCO.out wi (by omega) (Nat.le_refl _) HbOi.out.cell (HROL.out.below HBWi.out) (by rw [vals_length]; exact HLO.out.mono (by omega))).inRound l) belowK_t (belowK_b (Nat.le_refl _)) (Below.refl _ _) (fun _ => rfl)
      (fun pre' W' => (∀ q ∈ pre', eqS x q = false) ∧ Below wi.heap.size wi W')
      (fun c pre' W' => ∃ q : Pl × Pl, (c = .ret ∧ ∃ pre2, pre' = pre2 ++ [q] ∧ (∀ r ∈ pre2, eqS x r = false) ∧ eqS x q = true) ∧ ((∃ v, Boxed W' (w.heap.size + 1) 22 v ∧ W'.ownsRow w.heap.size 3 1 v 4 ((res x q).map (Value.int .i64)) ∧ True) ∧ (Boxed W' (w.heap.size + 1 + 1) 4 (.bool true) ∧ (Below w.heap.size W W' ∧ KeepsFrom wl.heap.size W W'))))
      (OwnFrom.and (ownFrom_pure _ _) (ownFrom_below (Nat.le_refl _) (Nat.le_refl _)))
      (fun c => ownFrom_ex fun q => OwnFrom.and (ownFrom_pure _ _) (OwnFrom.and (Own.from (holdsRow_own w.heap.size (w.heap.size + 1) 22 3 1 (fun _ => 4) (fun _ => (res x q).map (Value.int .i64)) (fun _ _ => True)) _) (OwnFrom.and (Own.from (boxed_own _ _ _) _) (OwnFrom.and (ownFrom_below (by omega) (by omega)) (ownFrom_keepsFrom (by omega))))))
      ⟨by simp, Below.refl _ _⟩
      (fun y a'' _ => a'' = { tmps := #[.slice a zs.length c, .pointer (some ⟨w.heap.size, 0, none⟩), .pointer (some ⟨w.heap.size + 1, 0, none⟩), .pointer (some ⟨w.heap.size + 1 + 1, 0, none⟩), .pointer (some ⟨w1.heap.size, 0, none⟩), .pointer (some ⟨Bx, 0, none⟩), .pointer (some ⟨By, 0, none⟩), .pointer (some ⟨wp.heap.size, 0, none⟩), .int .i64 ((y.1.val : Nat) : Int), .int .i64 ((y.2.val : Nat) : Int), .slice a zs.length c, .int .i64 zs.length, .func (.func 106) #[] #[.pointer (some ⟨w.heap.size, 0, none⟩)], .slice po oth.length co, .slice a zs.length c, .slice pn ones.length cn, .func (.func 132) #[] #[.pointer (some ⟨w3.heap.size, 0, none⟩)], .int .i64 ((x.1.val : Nat) : Int), .int .i64 ((x.2.val : Nat) : Int), .int .i64 ((x.1.val : Nat) : Int), .int .i64 ((x.2.val : Nat) : Int), .agg #[.int .i64 (ds x.1.val x.2.val 0), .int .i64 (ds x.1.val x.2.val 1), .int .i64 (ds x.1.val x.2.val 2), .int .i64 (ds x.1.val x.2.val 3)], .slice po oth.length co, .func (.func 132) #[] #[.pointer (some ⟨wp.heap.size + 1, 0, none⟩)], .int .i64 ((y.1.val : Nat) : Int), .int .i64 ((y.2.val : Nat) : Int), undef, undef, undef, undef, undef, undef, undef, undef, undef, undef, undef], defers := [] })
      (fun _ _ _ _ _ _ hs _ _ => hs)
      ?assign2 ?body2 ?done2 ?stop2
    case assign2 =>
      rintro l2 pre' y W' K hi hK
      dsimp only [encs]
      gi_wp2
      exact hK _ _ (KeepsFrom.refl _ _) (Below.refl _ _) hi rfl
    case body2 =>
      rintro l2 pre' y a'' W' _ _ ⟨hq, hBW'⟩ rfl _
      have HQ := Lib.hid hq
      have HBI := Lib.hid hBW'
      have hsI := hBW'.size
      clear hq hBW'
      have HBWi' := Lib.hid (HWi.out.trans (HBI.out.mono hsWi))
      have c0 := cell_below HBI.out HS.out.1 (by omega)
      have c1 := cell_below HBI.out HS.out.2.1 (by omega)
      have c2 := cell_below HBI.out HS.out.2.2.1 (by omega)
      have c3 := cell_below HBI.out HS.out.2.2.2 (by omega)
      have hd4 : 1 ≤ n - 1 - 1 - 1 - 1 := by omega
      have hmx : Try.prog.follows .mixedOrders = true := by kernel_rfl
      have harr := fun (wz : World) => istrade.arr_eq (ds y.1.val y.2.val 0) (ds y.1.val y.2.val 1) (ds y.1.val y.2.val 2) (ds y.1.val y.2.val 3) (ds x.1.val x.2.val 0) (ds x.1.val x.2.val 1) (ds x.1.val x.2.val 2) (ds x.1.val x.2.val 3) wz
      have HE := Lib.hid (show decide ((ds y.1.val y.2.val 0 = ds x.1.val x.2.val 0 ∧ ds y.1.val y.2.val 1 = ds x.1.val x.2.val 1) ∧ (ds y.1.val y.2.val 2 = ds x.1.val x.2.val 2 ∧ ds y.1.val y.2.val 3 = ds x.1.val x.2.val 3)) = eqS x y by unfold eqS; simp only [eq_comm])
      simp only [HE.out] at harr
      gi_wp2
      cases hxy : eqS x y
      · simp only [hxy] at harr
        gi_region_with_o (refine ⟨trivial, ?_⟩; gi_at_call 109; refine (CallsIn.inRound l2 (CallsIn.inRound l (callsIn_wide.2 (pair_sum y.1.val y.2.val _ y.1.isLt y.2.isLt)))).mono ?_; rintro e wq ⟨rfl, hbq⟩; have cc0 := cell_below hbq c0 (by first | exact Nat.lt_of_lt_of_le (show wp.heap.size < wi.heap.size by omega) hsI); have cc1 := cell_below hbq c1 (by first | exact Nat.lt_of_lt_of_le (show wp.heap.size < wi.heap.size by omega) hsI); have cc2 := cell_below hbq c2 (by first | exact Nat.lt_of_lt_of_le (show wp.heap.size < wi.heap.size by omega) hsI); have cc3 := cell_below hbq c3 (by first | exact Nat.lt_of_lt_of_le (show wp.heap.size < wi.heap.size by omega) hsI))
        all_goals gi_wp2
        all_goals (
          have hb9 : Below W'.heap.size W' wq := ⟨hbq.os, hbq.tape, hbq.output, hbq.size, hbq.block⟩
          have hl9 : ∀ q ∈ pre' ++ [y], eqS x q = false := fun q hq => (List.mem_append.1 hq).elim (fun h => HQ.out q h) (fun h => by simp at h; rw [h]; exact hxy)
          first
            | exact ⟨keepsFrom_of_below hb9, hb9.mono hsI, ⟨hl9, HBI.out.trans (hb9.mono hsI)⟩⟩
            | exact ⟨keepsFrom_of_below hb9.drew, hb9.drew.mono hsI, ⟨hl9, HBI.out.trans (hb9.drew.mono hsI)⟩⟩)
      · simp only [hxy] at harr
        gi_region_with_o (refine ⟨trivial, ?_⟩; gi_at_call 109; refine (CallsIn.inRound l2 (CallsIn.inRound l (callsIn_wide.2 (pair_sum y.1.val y.2.val _ y.1.isLt y.2.isLt)))).mono ?_; rintro e wq ⟨rfl, hbq⟩; have cc0 := cell_below hbq c0 (by first | exact Nat.lt_of_lt_of_le (show wp.heap.size < wi.heap.size by omega) hsI); have cc1 := cell_below hbq c1 (by first | exact Nat.lt_of_lt_of_le (show wp.heap.size < wi.heap.size by omega) hsI); have cc2 := cell_below hbq c2 (by first | exact Nat.lt_of_lt_of_le (show wp.heap.size < wi.heap.size by omega) hsI); have cc3 := cell_below hbq c3 (by first | exact Nat.lt_of_lt_of_le (show wp.heap.size < wi.heap.size by omega) hsI))
        all_goals (
          have hb9 : Below W'.heap.size W' wq := ⟨hbq.os, hbq.tape, hbq.output, hbq.size, hbq.block⟩
          have hW9 := HBWi'.out.trans (hb9.mono HBWi'.out.size)
          have hL9 := HBW.out.trans (hW9.mono hsW)
          have cX9 := (boxed_below HbX.out hW9 hlX).cell
          have cY9 := (boxed_below HbY.out hW9 hlY).cell
          have hR9 := boxed_below HbRL.out hL9 (by omega)
          have hO9 := boxed_below HbOL.out hL9 (by omega)
          have hs9 := hb9.size
          have HW9 := Lib.hid hW9
          have HL9 := Lib.hid hL9
          have HR9 := Lib.hid hR9
          have HO9 := Lib.hid hO9
          have cR9 := (hR9.alloc (.cells #[.int .i64 ((x.1.val : Nat) : Int), .int .i64 ((x.2.val : Nat) : Int), .int .i64 ((y.1.val : Nat) : Int), .int .i64 ((y.2.val : Nat) : Int)] 3)).cell
          have fR9 := (hR9.alloc (.cells #[.int .i64 ((x.1.val : Nat) : Int), .int .i64 ((x.2.val : Nat) : Int), .int .i64 ((y.1.val : Nat) : Int), .int .i64 ((y.2.val : Nat) : Int)] 3)).frozen
          have cO9 := (hO9.alloc (.cells #[.int .i64 ((x.1.val : Nat) : Int), .int .i64 ((x.2.val : Nat) : Int), .int .i64 ((y.1.val : Nat) : Int), .int .i64 ((y.2.val : Nat) : Int)] 3)).cell
          have fO9 := (hO9.alloc (.cells #[.int .i64 ((x.1.val : Nat) : Int), .int .i64 ((x.2.val : Nat) : Int), .int .i64 ((y.1.val : Nat) : Int), .int .i64 ((y.2.val : Nat) : Int)] 3)).frozen
          clear hW9 hL9 hR9 hO9)
        all_goals gi_wp2
        all_goals (
          have hne : w.heap.size + 1 ≠ w.heap.size + 1 + 1 := by omega
          have hwq : w.heap.size + 3 ≤ wq.heap.size := by omega
          have hRow : (wq.alloc (.cells #[.int .i64 ((x.1.val : Nat) : Int), .int .i64 ((x.2.val : Nat) : Int), .int .i64 ((y.1.val : Nat) : Int), .int .i64 ((y.2.val : Nat) : Int)] 3)).ownsRow w.heap.size 3 1 (.slice (some ⟨wq.heap.size, 0, none⟩) 4 4) 4 ((res x y).map (Value.int .i64)) := ⟨rfl, .inr ⟨wq.heap.size, 4, #[.int .i64 ((x.1.val : Nat) : Int), .int .i64 ((x.2.val : Nat) : Int), .int .i64 ((y.1.val : Nat) : Int), .int .i64 ((y.2.val : Nat) : Int)], rfl, by omega, heap_alloc_new wq _, Nat.le_refl _, by unfold maxLen; omega, rfl, rfl⟩⟩
          have hKO := (KeepsOthers.alloc wq (.cells #[.int .i64 ((x.1.val : Nat) : Int), .int .i64 ((x.2.val : Nat) : Int), .int .i64 ((y.1.val : Nat) : Int), .int .i64 ((y.2.val : Nat) : Int)] 3)).trans ((KeepsOthers.setCell (wq.alloc (.cells #[.int .i64 ((x.1.val : Nat) : Int), .int .i64 ((x.2.val : Nat) : Int), .int .i64 ((y.1.val : Nat) : Int), .int .i64 ((y.2.val : Nat) : Int)] 3)) ⟨w.heap.size + 1, 0, none⟩ (.slice (some ⟨wq.heap.size, 0, none⟩) 4 4)).trans (KeepsOthers.setCell _ ⟨w.heap.size + 1 + 1, 0, none⟩ (.bool true)))
          refine ⟨(keepsFrom_of_below hb9).trans (hKO.from _), y, ⟨rfl, pre', rfl, HQ.out, hxy⟩, ⟨_, ((HR9.out.alloc (.cells #[.int .i64 ((x.1.val : Nat) : Int), .int .i64 ((x.2.val : Nat) : Int), .int .i64 ((y.1.val : Nat) : Int), .int .i64 ((y.2.val : Nat) : Int)] 3)).set _).other hne _, ?_, trivial⟩, ((HO9.out.alloc (.cells #[.int .i64 ((x.1.val : Nat) : Int), .int .i64 ((x.2.val : Nat) : Int), .int .i64 ((y.1.val : Nat) : Int), .int .i64 ((y.2.val : Nat) : Int)] 3)).other hne.symm _).set _, ?_, (keepsFrom_of_below HW9.out).trans (hKO.from _)⟩
          · exact ownsRow_block hRow (fun g hg => by simp [Value.ownBlock] at hg; subst hg; rw [Below.heap_setCell _ _ _ _ (by show wq.heap.size ≠ w.heap.size + 1 + 1; omega), Below.heap_setCell _ _ _ _ (by show wq.heap.size ≠ w.heap.size + 1; omega)])
          · exact (((HW9.out.mono (by omega)).alloc (Nat.le_trans (by omega) HW9.out.size) _).setCell (by show w.heap.size ≤ w.heap.size + 1; omega) _).setCell (by show w.heap.size ≤ w.heap.size + 1 + 1; omega) _)
    case done2 =>
      rintro ys' W' rfl ⟨hq, hBW'⟩
      gi_wp2
      have hB2 := HWi.out.trans (hBW'.mono hsWi)
      exact ⟨keepsFrom_of_below hB2, hB2.mono hsW, ⟨fun p hp r hr => (List.mem_append.1 hp).elim (fun h => HP.out p h r hr) (fun h => by simp at h; subst h; exact hq r hr), HBW.out.trans (hB2.mono hsW)⟩⟩
    case stop2 =>
      rintro c' pre' W' hpre ⟨q, ⟨rfl, pre2, rfl, hno, hyes⟩, hrow, hok, hBW', hKF⟩
      gi_wp2
      exact ⟨hKF, (x, q), ⟨rfl, pre, pre2, rfl, HP.out, hpre, hno, hyes⟩, hrow, hok, (HBL.out.trans (HBW.out.mono (by omega))).trans hBW'⟩
  case done =>
    rintro D ys W hD rfl ⟨hp, hB1⟩ hK
    have hsW := hB1.size
    have hR9 := boxed_below HbRL.out hB1 (by omega)
    have hO9 := boxed_below HbOL.out hB1 (by omega)
    have HR9 := Lib.hid hR9
    have HO9 := Lib.hid hO9
    have HK9 := Lib.hid hK
    have HP := Lib.hid hp
    have HBW := Lib.hid (HBL.out.trans (hB1.mono (by omega)))
    have cR9 := (hR9.alloc (.cells #[] 3)).cell
    have fR9 := (hR9.alloc (.cells #[] 3)).frozen
    have cO9 := (hO9.alloc (.cells #[] 3)).cell
    have fO9 := (hO9.alloc (.cells #[] 3)).frozen
    clear hR9 hO9 hK hp hB1
    gi_wp2
    have hne : w.heap.size + 1 ≠ w.heap.size + 1 + 1 := by omega
    have hKO := (KeepsOthers.alloc W (.cells #[] 3)).trans ((KeepsOthers.setCell (W.alloc (.cells #[] 3)) ⟨w.heap.size + 1, 0, none⟩ (.slice (some ⟨W.heap.size, 0, none⟩) 0 0)).trans (KeepsOthers.setCell _ ⟨w.heap.size + 1 + 1, 0, none⟩ (.bool false)))
    have hK' := hKO.same D _ HK9.out rfl
    have bR := ((HR9.out.alloc (.cells #[] 3)).set (.slice (some ⟨W.heap.size, 0, none⟩) 0 0)).other hne (.bool false)
    have bO := ((HO9.out.alloc (.cells #[] 3)).other hne.symm (.slice (some ⟨W.heap.size, 0, none⟩) 0 0)).set (.bool false)
    refine ⟨by simp, .inl ⟨_, _, rfl, run_takeDeferred hK', ?_⟩⟩
    have hcR := cell_kept bR.cell (grownBy_putObj' _ D (.deferred none)) (fun r e => by cases e; exact ⟨_, hK', rfl⟩)
    have hcO := cell_kept bO.cell (grownBy_putObj' _ D (.deferred none)) (fun r e => by cases e; exact ⟨_, hK', rfl⟩)
    have hDl := (Array.getElem?_eq_some_iff.1 HK9.out).1
    refine ⟨.tuple #[.slice (some ⟨W.heap.size, 0, none⟩) 0 0, .bool false], by simp [results, Try.results75, go_sem, hcR, hcO], _, [], false, rfl, ?_, .inr ⟨rfl, rfl, HP.out⟩, ?_⟩
    · refine (OwnI.block (own_empty W) (fun g hg => ?_)).mono (by omega) (by simp)
      simp [Value.ownBlock] at hg
      subst hg
      rw [World.putObj_heap_other (by omega), Below.heap_setCell _ _ _ _ (by show W.heap.size ≠ w.heap.size + 1 + 1; omega), Below.heap_setCell _ _ _ _ (by show W.heap.size ≠ w.heap.size + 1; omega)]
    · exact (((HBW.out.alloc HBW.out.size _).setCell (by show w.heap.size ≤ w.heap.size + 1; omega) _).setCell (by show w.heap.size ≤ w.heap.size + 1 + 1; omega) _).trans (belowK_b (w := w) (Nat.le_refl _) _ D _ _ (by omega) hK' rfl rfl)
  case stop =>
    rintro D c' pre W hD hpre ⟨⟨x, q⟩, ⟨rfl, pre0, pre2, rfl, hno, hq, hno2, hyes⟩, ⟨v, bR, hrow, _⟩, bO, hBW⟩ hK
    gi_wp2
    refine ⟨by simp, .inl ⟨_, _, rfl, run_takeDeferred hK, ?_⟩⟩
    have hcR := cell_kept bR.cell (grownBy_putObj' _ D (.deferred none)) (fun r e => by cases e; exact ⟨_, hK, rfl⟩)
    have hcO := cell_kept bO.cell (grownBy_putObj' _ D (.deferred none)) (fun r e => by cases e; exact ⟨_, hK, rfl⟩)
    refine ⟨.tuple #[v, .bool true], by simp [results, Try.results75, go_sem, hcR, hcO], v, res x q, .inr ⟨rfl, ?_, .inl ⟨rfl, pre0, x, pre2, q, hpre, hno, hq, hno2, hyes, rfl⟩, ?_⟩⟩
    · exact OwnI.of (ownsRow_putObj hrow _ hK rfl)
    · exact hBW.trans (belowK_b (w := w) (Nat.le_refl _) W D _ _ (by omega) hK rfl rfl)
end Go.Proofs.Ytoephhhofkmgjab.firstw

namespace Go.Proofs.Ytoephhhofkmgjab.findc
open Go.RowKit own pp nums range tab pairw trade findp prs firstw plin
set_option linter.unusedVariables false
set_option linter.unusedSimpArgs false

/-- The places below L where p holds. -/
def plOf (p : Nat → Bool) (L : Nat) : List Pl := ((List.range L).filter p).map fun i => ⟨i % 16, Nat.mod_lt _ (by decide)⟩
theorem plOf_vals (p : Nat → Bool) {L : Nat} (h : L ≤ 16) : placesTo p L = vals (plOf p L) := by
  unfold placesTo vals plOf
  rw [List.map_map]
  apply List.map_congr_left
  intro i hi
  have := List.mem_range.1 (List.mem_filter.1 hi).1
  show (i : Int) = ((i % 16 : Nat) : Int)
  rw [Nat.mod_eq_of_lt (by omega)]
theorem plOf_mem {p : Nat → Bool} {L : Nat} (h : L ≤ 16) (x : Pl) : x ∈ plOf p L ↔ x.val < L ∧ p x.val = true := by
  unfold plOf
  rw [List.mem_map]
  constructor
  · rintro ⟨i, hi, rfl⟩
    have h1 := List.mem_filter.1 hi
    have h2 := List.mem_range.1 h1.1
    show i % 16 < L ∧ p (i % 16) = true
    rw [Nat.mod_eq_of_lt (by omega)]
    exact ⟨h2, h1.2⟩
  · rintro ⟨h1, h2⟩
    refine ⟨x.val, List.mem_filter.2 ⟨List.mem_range.2 h1, h2⟩, ?_⟩
    apply Fin.ext
    show x.val % 16 = x.val
    exact Nat.mod_eq_of_lt x.isLt
theorem plOf_len (p : Nat → Bool) {L : Nat} (h : L ≤ 16) : (plOf p L).length ≤ 16 := by
  unfold plOf
  rw [List.length_map]
  exact Nat.le_trans (List.length_filter_le _ _) (by simpa using h)
theorem plOf_sorted (p : Nat → Bool) {L : Nat} (h : L ≤ 16) : (plOf p L).Pairwise (fun a b => a.val < b.val) := by
  unfold plOf
  rw [List.pairwise_map]
  have h1 : ((List.range L).filter p).Pairwise (· < ·) := List.Pairwise.filter p List.pairwise_lt_range
  refine List.Pairwise.imp_of_mem ?_ h1
  intro a b ha hb hab
  have h2 := List.mem_range.1 (List.mem_filter.1 ha).1
  have h3 := List.mem_range.1 (List.mem_filter.1 hb).1
  show a % 16 < b % 16
  rw [Nat.mod_eq_of_lt (by omega), Nat.mod_eq_of_lt (by omega)]
  exact hab
/-- A pair as a number. -/
def c2 (p : Pl × Pl) : Nat := p.1.val * 16 + p.2.val
theorem prs_mem {xs : List Pl} (h : xs.Pairwise (fun a b => a.val < b.val)) (p : Pl × Pl) : p ∈ prs.prs xs ↔ p.1 ∈ xs ∧ p.2 ∈ xs ∧ p.1.val ≤ p.2.val := by
  induction xs with
  | nil => simp [prs.prs]
  | cons x t ih =>
    have h1 := List.pairwise_cons.1 h
    have ih := ih h1.2
    obtain ⟨a, b⟩ := p
    simp only [prs.prs, List.mem_append, List.mem_map, List.mem_cons, Prod.mk.injEq] at ih ⊢
    rw [ih]
    constructor
    · rintro (⟨y, hy, rfl, rfl⟩ | ⟨ha, hb, hab⟩)
      · refine ⟨.inl rfl, hy, ?_⟩
        rcases hy with rfl | hy
        · exact Nat.le_refl _
        · exact Nat.le_of_lt (h1.1 _ hy)
      · exact ⟨.inr ha, .inr hb, hab⟩
    · rintro ⟨ha | ha, hb, hab⟩
      · exact .inl ⟨b, hb, ha.symm, rfl⟩
      · rcases hb with rfl | hb
        · have := h1.1 _ ha
          omega
        · exact .inr ⟨ha, hb, hab⟩
theorem prs_sorted {xs : List Pl} (h : xs.Pairwise (fun a b => a.val < b.val)) : (prs.prs xs).Pairwise (fun p q => c2 p < c2 q) := by
  induction xs with
  | nil => simp [prs.prs]
  | cons x t ih =>
    have h1 := List.pairwise_cons.1 h
    show ((x :: t).map (fun y => (x, y)) ++ prs.prs t).Pairwise _
    rw [List.pairwise_append]
    refine ⟨?_, ih h1.2, ?_⟩
    · rw [List.pairwise_map]
      exact h.imp (fun {a b} hab => by unfold c2; show x.val * 16 + a.val < x.val * 16 + b.val; omega)
    · intro p hp q hq
      rw [List.mem_map] at hp
      obtain ⟨y, _, rfl⟩ := hp
      have h2 := h1.1 _ ((prs_mem h1.2 q).1 hq).1
      have h3 := y.isLt
      unfold c2
      show x.val * 16 + y.val < q.1.val * 16 + q.2.val
      omega
theorem prefix_mem {l pre : List (Pl × Pl)} {x y : Pl × Pl} (h : l.Pairwise (fun p q => c2 p < c2 q)) (hp : pre ++ [x] <+: l) (hy : y ∈ l) (hc : c2 y < c2 x) : y ∈ pre := by
  obtain ⟨rest, rfl⟩ := hp
  rw [List.append_assoc, List.mem_append] at hy
  rcases hy with hy | hy
  · exact hy
  · rw [List.append_assoc, List.pairwise_append] at h
    have h2 := h.2.1
    simp only [List.cons_append, List.nil_append, List.pairwise_cons] at h2
    simp only [List.cons_append, List.nil_append, List.mem_cons] at hy
    rcases hy with rfl | hy
    · omega
    · have := h2.1 _ hy
      omega
theorem c2_inj {p q : Pl × Pl} (h : c2 p = c2 q) : p = q := by
  obtain ⟨a, b⟩ := p
  obtain ⟨a', b'⟩ := q
  unfold c2 at h
  have h1 := a.isLt; have h2 := b.isLt; have h3 := a'.isLt; have h4 := b'.isLt
  have e1 : a.val = a'.val := by show _; simp only at h; omega
  have e2 : b.val = b'.val := by simp only at h; omega
  rw [Fin.ext e1, Fin.ext e2]
/-- The pairs of ones and of other places of a table. -/
def onesOf (zs : List Int) : List Pl := plOf (fun k => decide (0 < zs.getD k 0)) zs.length
def othOf (zs : List Int) : List Pl := plOf (fun k => zs.getD k 0 == 0) zs.length
theorem tr_iff {n : Nat} {zs : List Int} (hk : tabB n zs = true) {a b c d : Nat} (ha : a < zs.length) (hb : b < zs.length) (hc : c < zs.length) (hd : d < zs.length) (ha6 : a < 16) (hb6 : b < 16) (hc6 : c < 16) (hd6 : d < 16) :
    trN n zs a b c d = true ↔ ((⟨a, ha6⟩, ⟨b, hb6⟩) : Pl × Pl) ∈ prs.prs (onesOf zs) ∧ ((⟨c, hc6⟩, ⟨d, hd6⟩) : Pl × Pl) ∈ prs.prs (othOf zs) ∧ eqS (⟨a, ha6⟩, ⟨b, hb6⟩) (⟨c, hc6⟩, ⟨d, hd6⟩) = true := by
  obtain ⟨m0, he, h4, hpw, h16, hrg⟩ := tab_nat hk
  obtain rfl : n = m0 := by omega
  have va := tab_at hk a ha
  have vb := tab_at hk b hb
  have vc := tab_at hk c hc
  have vd := tab_at hk d hd
  have e4 : eqBits n a b c d = eqS (⟨a, ha6⟩, ⟨b, hb6⟩) (⟨c, hc6⟩, ⟨d, hd6⟩) := by
    rw [eq_four h4 (by omega) (by omega) (by omega) (by omega), istrade.eq4]; rfl
  unfold onesOf othOf
  rw [prs_mem (plOf_sorted _ h16), prs_mem (plOf_sorted _ h16), plOf_mem h16, plOf_mem h16, plOf_mem h16, plOf_mem h16, ← e4]
  unfold trN
  simp only [Bool.and_eq_true, decide_eq_true_eq, beq_iff_eq]
  constructor
  · rintro ⟨⟨h1, h2⟩, ⟨h3, h5⟩, h6⟩
    exact ⟨⟨⟨ha, by omega⟩, ⟨hb, by omega⟩, h1⟩, ⟨⟨hc, by omega⟩, ⟨hd, by omega⟩, h2⟩, h6⟩
  · rintro ⟨⟨⟨_, h1⟩, ⟨_, h2⟩, h3⟩, ⟨⟨_, h5⟩, ⟨_, h6⟩, h7⟩, h8⟩
    exact ⟨⟨h3, h7⟩, ⟨by omega, by omega⟩, h8⟩
theorem finds_is {n : Nat} {zs out : List Int} {ok : Bool} (hk : tabB n zs = true) (h : Finds (onesOf zs) (othOf zs) out ok) : out = findT n zs ∧ ok = decide (0 < (findT n zs).length) := by
  obtain ⟨m0, he, h4, hpw, h16, hrg⟩ := tab_nat hk
  have hs1 := prs_sorted (plOf_sorted (fun k => decide (0 < zs.getD k 0)) h16)
  have hs2 := prs_sorted (plOf_sorted (fun k => zs.getD k 0 == 0) h16)
  rcases h with ⟨rfl, pre, x, pre2, q, hp, hno, hp2, hno2, hyes, rfl⟩ | ⟨rfl, rfl, hno⟩
  · have hx : x ∈ prs.prs (onesOf zs) := hp.subset (by simp)
    have hq : q ∈ prs.prs (othOf zs) := hp2.subset (by simp)
    have m1 := (prs_mem (plOf_sorted (fun k => decide (0 < zs.getD k 0)) h16) x).1 hx
    have m2 := (prs_mem (plOf_sorted (fun k => zs.getD k 0 == 0) h16) q).1 hq
    have a1 := ((plOf_mem h16 _).1 m1.1).1
    have a2 := ((plOf_mem h16 _).1 m1.2.1).1
    have a3 := ((plOf_mem h16 _).1 m2.1).1
    have a4 := ((plOf_mem h16 _).1 m2.2.1).1
    have ht : trN n zs x.1.val x.2.val q.1.val q.2.val = true := (tr_iff hk a1 a2 a3 a4 x.1.isLt x.2.isLt q.1.isLt q.2.isLt).2 ⟨hx, hq, hyes⟩
    have e : findT n zs = res x q := by
      refine find_hit h16 a1 a2 a3 a4 ht ?_
      intro j hj
      cases hc : okC n zs j
      · rfl
      · exfalso
        have h5 := okC_in hc
        have h6 := (tr_iff hk h5.1.1.1 h5.1.1.2 h5.1.2.1 h5.1.2.2 (by omega) (by omega) (by omega) (by omega)).1 h5.2
        have hx1 := x.1.isLt; have hx2 := x.2.isLt; have hq1 := q.1.isLt; have hq2 := q.2.isLt
        by_cases hlt : j / 4096 * 16 + j / 256 % 16 < c2 x
        · have := hno _ (prefix_mem hs1 hp h6.1 hlt) _ h6.2.1
          rw [h6.2.2] at this; cases this
        · have he1 : j / 4096 * 16 + j / 256 % 16 = c2 x := by unfold code at hj; unfold c2 at hlt ⊢; omega
          have he2 : ((⟨j / 4096, by omega⟩, ⟨j / 256 % 16, by omega⟩) : Pl × Pl) = x := c2_inj he1
          have hlt2 : j / 16 % 16 * 16 + j % 16 < c2 q := by unfold code at hj; unfold c2 at he1 ⊢; omega
          have := hno2 _ (prefix_mem hs2 hp2 h6.2.1 hlt2)
          rw [← he2, h6.2.2] at this; cases this
    rw [e]
    exact ⟨rfl, rfl⟩
  · have e : findT n zs = [] := by
      refine find_none fun j hj => ?_
      cases hc : okC n zs j
      · rfl
      · exfalso
        have h5 := okC_in hc
        have h6 := (tr_iff hk h5.1.1.1 h5.1.1.2 h5.1.2.1 h5.1.2.2 (by omega) (by omega) (by omega) (by omega)).1 h5.2
        have := hno _ h6.1 _ h6.2.1
        rw [h6.2.2] at this; cases this
    rw [e]
    exact ⟨rfl, rfl⟩
set_option maxRecDepth 100000 in
set_option maxHeartbeats 4000000 in
theorem first_trade (n : Nat) (a : Option Addr) (zs : List Int) (c : Nat) (w : World) (hr : ints.Reads .i64 w a zs) (hk : tab.tabB n zs = true) :
    Calls Try.prog 75 #[.slice a zs.length c] w (RetIB (findT n zs) (decide (0 < (findT n zs).length)) w) := by
  obtain ⟨m0, he, h4, hpw, h16, hrg⟩ := tab_nat hk
  refine (callsIn_wide.1 (first_in 6 (by omega) a zs c w hr h16 (onesOf zs) (othOf zs) (Lib.hid (plOf_len _ h16)) (Lib.hid (plOf_len _ h16)) (Lib.hid (plOf_vals _ h16)) (Lib.hid (plOf_vals _ h16)))).mono ?_
  rintro e w' ⟨v, out, ok, rfl, hov, hf, hb⟩
  obtain ⟨e1, e2⟩ := finds_is hk hf
  rw [e1] at hov
  rw [e2]
  exact ⟨v, rfl, hov, hb⟩
end Go.Proofs.Ytoephhhofkmgjab.findc
