/- Several texts in one. -/
import Derived.Lib.Hide
import Derived.LoopIn
import Derived.LoopNIn
import Derived.Maps.AppendAt
import Derived.OwnWalkIn
import Derived.RangeFuncBound
import Derived.RangeFuncBox
import Derived.RangeFuncCalls
import Derived.RangeFuncLeaves
import Derived.RangeFuncNested
import Derived.Shelf.Abstract
import Derived.Shelf.RegionOpen
import Derived.TacticsInMore
import Derived.WalkKit
import Derived.Test.YtldimbipjjjghaaLpH35
import Derived.Test.YtldimbipjjjghaaLpH14
import Derived.Test.YtldimbipjjjghaaLpH27
import Derived.Test.YtldimbipjjjghaaLpH19
namespace Go.Proofs.Ytldimbipjjjghaa.firstw
open Go Go.RowKit Go.Shelf own prs plin pairw trade range tab
set_option linter.unusedVariables false
set_option linter.unusedSimpArgs false
attribute [local go_sem] Oper.semAt_some

theorem keepsFrom_of_below {B : Nat} {W W' : World} (h : Below W.heap.size W W') : KeepsFrom B W W' := ⟨h.size, fun k o _ hk _ => (h.block k (Array.getElem?_eq_some_iff.1 hk).1).trans hk⟩
theorem ownFrom_ex {α β : Type} {B : Nat} {I : α → β → World → Prop} (h : ∀ y, OwnFrom B (I y)) : OwnFrom B (fun s W => ∃ y, I y s W) :=
  fun s W W' row ⟨y, hy⟩ hg hr => ⟨y, h y s W W' row hy hg hr⟩
theorem boxed_below {W W' : World} {N B : Nat} {t : TypeId} {v : Value} (h : Boxed W B t v) (hb : Below N W W') (hB : B < N) : Boxed W' B t v := (hb.block B hB).trans h
/-- The same sums. -/
def eqS (p q : Pl × Pl) : Bool := decide ((ds p.1.val p.2.val 0 = ds q.1.val q.2.val 0 ∧ ds p.1.val p.2.val 1 = ds q.1.val q.2.val 1) ∧ (ds p.1.val p.2.val 2 = ds q.1.val q.2.val 2 ∧ ds p.1.val p.2.val 3 = ds q.1.val q.2.val 3))
def res (p q : Pl × Pl) : List Int := [((p.1.val : Nat) : Int), ((p.2.val : Nat) : Int), ((q.1.val : Nat) : Int), ((q.2.val : Nat) : Int)]
/-- What the search finds among the pairs of two lists. -/
def Finds (ones others : List Pl) (out : List Int) (ok : Bool) : Prop :=
  (ok = true ∧ ∃ pre x pre2 q, (pre ++ [x] <+: prs ones) ∧ (∀ p ∈ pre, ∀ r ∈ prs others, eqS p r = false) ∧ (pre2 ++ [q] <+: prs others) ∧ (∀ r ∈ pre2, eqS x r = false) ∧ eqS x q = true ∧ out = res x q) ∨
  (ok = false ∧ out = [] ∧ ∀ p ∈ prs ones, ∀ r ∈ prs others, eqS p r = false)
set_option maxRecDepth 100000 in
set_option maxHeartbeats 4000000 in
theorem first_in (n : Nat) (hn : 6 ≤ n) (a : Option Addr) (zs : List Int) (c : Nat) (w : World) (hr : ints.Reads .i64 w a zs) (h16 : zs.length ≤ 16) (ones oth : List Pl) (HON : Hid (ones.length ≤ 16)) (HOT : Hid (oth.length ≤ 16)) (h1 : Hid (placesTo (fun k => decide (0 < zs.getD k 0)) zs.length = vals ones)) (h2 : Hid (placesTo (fun k => zs.getD k 0 == 0) zs.length = vals oth)) :
    CallsIn Fence.wide n Try.prog 158 #[.slice a zs.length c] w fun e W' => ∃ v out ok, e = .returned (.tuple #[v, .bool ok]) ∧ OwnI w.heap.size W'.heap.size W' v out ∧ Finds ones oth out ok ∧ Below w.heap.size w W' := by
  have hn1 : 1 ≤ n := by omega
  have HR := Lib.hid hr
  clear hr
  refine callsIn_of_wp_marks Try.func158 rfl trivial ?_ rfl
  simp only [Try.ntmps158, List.size_toArray, List.length_cons, List.length_nil, Nat.reduceAdd, Nat.reduceSub, Array.replicate_succ, Array.replicate_zero, List.push_toArray, List.append_toArray, List.nil_append, List.cons_append]
  obtain ⟨w0, hw0⟩ : ∃ w0 : World, w0 = ((w.alloc (.cells #[.slice a zs.length c] 23)).alloc (.cells #[.slice none 0 0] 23)).alloc (.cells #[.bool false] 4) := ⟨_, rfl⟩
  have bT : Boxed w0 w.heap.size 23 (.slice a zs.length c) := by rw [hw0]; exact ((Boxed.new w _ _).alloc _).alloc _
  have bR : Boxed w0 (w.heap.size + 1) 23 (.slice none 0 0) := by
    rw [hw0]
    have := (Boxed.new (w.alloc (.cells #[.slice a zs.length c] 23)) 23 (.slice none 0 0)).alloc (.cells #[.bool false] 4)
    rwa [World.size_alloc] at this
  have bO : Boxed w0 (w.heap.size + 1 + 1) 4 (.bool false) := by
    rw [hw0]
    have := Boxed.new ((w.alloc (.cells #[.slice a zs.length c] 23)).alloc (.cells #[.slice none 0 0] 23)) 4 (.bool false)
    rwa [World.size_alloc, World.size_alloc] at this
  have hB0 : Below w.heap.size w w0 := by rw [hw0]; exact (((Below.refl _ w).alloc (Nat.le_refl _) _).alloc (by simp) _).alloc (by simp; omega) _
  have hz0 : w0.heap.size = w.heap.size + 3 := by rw [hw0]; simp
  have HB0 := Lib.hid hB0
  have HbT := Lib.hid bT
  have HbR := Lib.hid bR
  have HbO := Lib.hid bO
  have HZ0 := Lib.hid hz0
  have cT := bT.cell
  clear hB0 bT bR bO hz0
  gi_wp2
  rw [← hw0]
  clear hw0
  refine ⟨trivial, ?_⟩
  refine (callsIn_wide.2 (others.other_places zs.length (.pointer (some ⟨w.heap.size, 0, none⟩)) (fun k => zs.getD k 0 == 0) w0 (by omega) (Lib.hid (fun k wr hk hb => others.other_closure k _ a zs c wr (hb.cell (p := ⟨w.heap.size, 0, none⟩) (by have := HZ0.out; show w.heap.size < _; omega) |>.trans HbT.out.cell) ((HR.out.below HB0.out).below hb) hk (by omega) _ rfl)))).mono ?_
  rintro e w1 ⟨v1, rfl, hov1, hb1⟩
  rw [h2.out] at hov1
  obtain ⟨po, co, hv1, hro, hco, _⟩ := hov1.slice
  subst hv1
  have HB1 := Lib.hid (HB0.out.trans (hb1.mono HB0.out.size))
  have HRO := Lib.hid hro
  have cT1 := (hb1.cell (p := ⟨w.heap.size, 0, none⟩) (by have := HZ0.out; show w.heap.size < _; omega)).trans HbT.out.cell
  have HK1 := Lib.hid hb1
  have hz1 := hb1.size
  have HCO := Lib.hid hco
  have HLO := Lib.hid hro.low
  rw [vals_length] at HCO HLO ⊢
  have xf : (w1.alloc (.cells #[.slice none 0 0] 23)).frozen? ⟨w1.heap.size, 0, none⟩ = false := fro_new _ _ _ rfl
  have xc : (w1.alloc (.cells #[.slice none 0 0] 23)).cell? ⟨w1.heap.size, 0, none⟩ = some (.slice none 0 0) := cell_new _ _ _ rfl rfl
  clear cT hov1 hb1 hro hco
  have cT2 := cell_old (.cells #[.slice po oth.length co] 23) cT1
  gi_wp2
  have HBA := Lib.hid (HB1.out.alloc HB1.out.size (.cells #[.slice po oth.length co] 23))
  have bOth := Boxed.new w1 23 (.slice po oth.length co)
  obtain ⟨w2, hw2⟩ : ∃ w2 : World, w2 = w1.alloc (.cells #[.slice po oth.length co] 23) := ⟨_, rfl⟩
  have hsz2 : w2.heap.size = w1.heap.size + 1 := by rw [hw2]; simp
  rw [← hw2] at HBA bOth cT2 ⊢
  have HK2 := Lib.hid (show Below w0.heap.size w0 w2 by rw [hw2]; exact HK1.out.alloc HK1.out.size _)
  have HRO2 := Lib.hid (show ints.Reads .i64 w2 po (vals oth) by rw [hw2]; exact HRO.out.below (below_alloc w1 _))
  clear hw2 xf xc HRO
  refine ⟨trivial, ?_⟩
  refine (callsIn_wide.2 (plin.impl_in a zs c w2 (HR.out.below HBA.out) (by omega))).mono ?_
  rintro e w3 ⟨v3, rfl, hov3, hb3⟩
  rw [h1.out] at hov3
  obtain ⟨pn, cn, hv3, hrn, hcn, _⟩ := hov3.slice
  subst hv3
  rw [vals_length] at hcn ⊢
  have HB3 := Lib.hid (HBA.out.trans (hb3.mono HBA.out.size))
  have HRN := Lib.hid hrn
  have HCN := Lib.hid hcn
  have HLN := Lib.hid (show ints.Low w3.heap.size pn ones.length by have := hrn.low; rwa [vals_length] at this)
  have HK3 := Lib.hid hb3
  have hz3 := hb3.size
  clear hov3 hb3 hrn hcn cT1 cT2
  gi_wp2_with (refine ⟨trivial, ?_⟩; gi_at_call 175; refine (pairs_in (n - 1) _ _ _ _).mono ?_; rintro e w' ⟨rfl, rfl⟩)
  have bOn := Boxed.new w3 23 (.slice pn ones.length cn)
  obtain ⟨wl, hwl⟩ : ∃ wl : World, wl = w3.alloc (.cells #[.slice pn ones.length cn] 23) := ⟨_, rfl⟩
  have hszl : wl.heap.size = w3.heap.size + 1 := by rw [hwl]; simp
  rw [← hwl] at bOn ⊢
  have HKL := Lib.hid (show Below w0.heap.size w0 wl by rw [hwl]; exact (HK2.out.trans (HK3.out.mono HK2.out.size)).alloc (HK2.out.trans (HK3.out.mono HK2.out.size)).size _)
  have HK2L := Lib.hid (show Below w2.heap.size w2 wl by rw [hwl]; exact HK3.out.alloc HK3.out.size _)
  have HBL := Lib.hid (show Below w.heap.size w wl by rw [hwl]; exact HB3.out.alloc HB3.out.size _)
  have HRNL := Lib.hid (show ints.Reads .i64 wl pn (vals ones) by rw [hwl]; exact HRN.out.below (below_alloc w3 _))
  have HROL := Lib.hid (HRO2.out.below HK2L.out)
  have HbOn := Lib.hid bOn
  have HbRL := Lib.hid (boxed_below HbR.out HKL.out (by have := HZ0.out; omega))
  have HbOL := Lib.hid (boxed_below HbO.out HKL.out (by have := HZ0.out; omega))
  have HbOth := Lib.hid (boxed_below bOth HK2L.out (by omega))
  have hz0 := HZ0.out
  clear hwl HRN HRO2 HB3 HBA bOth bOn HK3 HK2
  have hwl3 : w.heap.size + 3 ≤ wl.heap.size := by omega
  have hw1l : w1.heap.size < wl.heap.size := by omega
  have hw3l : w3.heap.size < wl.heap.size := by omega
  refine wpIn_rangeFunc_ownH (F := Fence.wide) rfl hn1 (gf := 187) (lb := #[.pointer (some ⟨w3.heap.size, 0, none⟩)]) rfl trivial (enters_of Try.func187 (by kernel_rfl) rfl)
    (prs.stops (n - 1) (by omega) w3.heap.size wl.heap.size pn ones cn HON.out HCN.out wl (by omega) (Nat.le_refl _) HbOn.out.cell HRNL.out (by rw [vals_length]; exact HLN.out.mono (Nat.le_of_lt hw3l))) belowK_t (belowK_b (Nat.le_refl _)) (Below.refl _ _) (fun _ => rfl)
    (fun pre W => (∀ p ∈ pre, ∀ r ∈ prs.prs oth, eqS p r = false) ∧ Below wl.heap.size wl W)
    (fun c pre W => ∃ xq : (Pl × Pl) × (Pl × Pl), (c = .ret ∧ ∃ pre0 pre2, pre = pre0 ++ [xq.1] ∧ (∀ p ∈ pre0, ∀ r ∈ prs.prs oth, eqS p r = false) ∧ (pre2 ++ [xq.2] <+: prs.prs oth) ∧ (∀ r ∈ pre2, eqS xq.1 r = false) ∧ eqS xq.1 xq.2 = true) ∧ ((∃ v, Boxed W (w.heap.size + 1) 23 v ∧ W.ownsRow w.heap.size 3 1 v 4 ((res xq.1 xq.2).map (Value.int .i64)) ∧ True) ∧ (Boxed W (w.heap.size + 1 + 1) 4 (.bool true) ∧ Below w.heap.size w W)))
    (OwnFrom.and (ownFrom_pure _ _) (ownFrom_below (Nat.le_refl _) (Nat.le_refl _)))
    (fun c => ownFrom_ex fun xq => OwnFrom.and (ownFrom_pure _ _) (OwnFrom.and (Own.from (holdsRow_own w.heap.size (w.heap.size + 1) 23 3 1 (fun _ => 4) (fun _ => (res xq.1 xq.2).map (Value.int .i64)) (fun _ _ => True)) _) (OwnFrom.and (Own.from (boxed_own _ _ _) _) (ownFrom_below (Nat.le_refl _) (by omega)))))
    ⟨by simp, Below.refl _ _⟩
    (fun x a' W => ∃ Bx By, (wl.heap.size ≤ Bx ∧ wl.heap.size ≤ By) ∧ (Boxed W Bx 3 (.int .i64 ((x.1.val : Nat) : Int)) ∧ Boxed W By 3 (.int .i64 ((x.2.val : Nat) : Int))) ∧ a' = { tmps := #[.slice a zs.length c, .pointer (some ⟨w.heap.size, 0, none⟩), .pointer (some ⟨w.heap.size + 1, 0, none⟩), .pointer (some ⟨w.heap.size + 1 + 1, 0, none⟩), .pointer (some ⟨w1.heap.size, 0, none⟩), .pointer (some ⟨Bx, 0, none⟩), .pointer (some ⟨By, 0, none⟩), undef, undef, undef, .slice a zs.length c, .int .i64 zs.length, .func (.func 174) #[] #[.pointer (some ⟨w.heap.size, 0, none⟩)], .slice po oth.length co, .slice a zs.length c, .slice pn ones.length cn, .func (.func 187) #[] #[.pointer (some ⟨w3.heap.size, 0, none⟩)], .int .i64 ((x.1.val : Nat) : Int), .int .i64 ((x.2.val : Nat) : Int), undef, undef, undef, undef, undef, undef, undef, undef, undef, undef, undef, undef, undef, undef, undef, undef, undef, undef], defers := [] })
    (fun x a' _ X Y row hs hg hr => by obtain ⟨Bx, By, e1, ⟨e2, e3⟩, e4⟩ := hs; exact ⟨Bx, By, e1, ⟨boxed_own Bx 3 (fun (_ : Unit) => Value.int .i64 ((x.1.val : Nat) : Int)) () X Y row e2 hg (fun r e => (hr r e).2), boxed_own By 3 (fun (_ : Unit) => Value.int .i64 ((x.2.val : Nat) : Int)) () X Y row e3 hg (fun r e => (hr r e).2)⟩, e4⟩)
    ?assign ?body ?done ?stop
  case assign =>
    rintro l pre x W K ⟨hp, hB1⟩ hK
    have HP := Lib.hid hp
    have HBW := Lib.hid hB1
    clear hp hB1
    dsimp only [encs]
    gi_wp2
    have hsW := HBW.out.size
    exact hK _ _ (((KeepsOthers.alloc _ _).trans (KeepsOthers.alloc _ _)).from _) (((Below.refl _ W).alloc hsW _).alloc (by simp; omega) _) ⟨HP.out, (HBW.out.alloc hsW _).alloc (by simp; omega) _⟩ ⟨W.heap.size, W.heap.size + 1, ⟨hsW, by omega⟩, ⟨(Boxed.new W _ _).alloc _, by have := Boxed.new (W.alloc (.cells #[.int .i64 ((x.1.val : Nat) : Int)] 3)) 3 (.int .i64 ((x.2.val : Nat) : Int)); rwa [World.size_alloc] at this⟩, rfl⟩
  case body =>
    rintro l pre x a' W hl ⟨r, hr⟩ ⟨hp, hB1⟩ ⟨Bx, By, ⟨hBx, hBy⟩, ⟨bX, bY⟩, rfl⟩ hlt
    have HP := Lib.hid hp
    have HBW := Lib.hid hB1
    have HbX := Lib.hid bX
    have HbY := Lib.hid bY
    have hsW := hB1.size
    have cX := bX.cell
    have cY := bY.cell
    have hlX := bX.lt
    have hlY := bY.lt
    have hlL := (Array.getElem?_eq_some_iff.1 hr).1
    have HRr := Lib.hid hr
    have h1' : 1 ≤ n - 1 - 1 := by omega
    clear hp hB1 bX bY hr
    gi_wp2
    refine ⟨trivial, ?_⟩
    refine (CallsIn.inRound l (callsIn_wide.2 (pair_sum x.1.val x.2.val W x.1.isLt x.2.isLt))).mono ?_
    rintro e wp ⟨rfl, hbp⟩
    have HBP := Lib.hid hbp
    have hsp := hbp.size
    clear hbp cX cY
    have f0 : (wp.alloc (.cells #[.int .i64 0, .int .i64 0, .int .i64 0, .int .i64 0] 125)).frozen? ⟨wp.heap.size, 0, none⟩ = false := fro_new _ _ _ rfl
    have f1 : (wp.alloc (.cells #[.int .i64 0, .int .i64 0, .int .i64 0, .int .i64 0] 125)).frozen? ⟨wp.heap.size, 1, none⟩ = false := fro_new _ _ _ rfl
    have f2 : (wp.alloc (.cells #[.int .i64 0, .int .i64 0, .int .i64 0, .int .i64 0] 125)).frozen? ⟨wp.heap.size, 2, none⟩ = false := fro_new _ _ _ rfl
    have f3 : (wp.alloc (.cells #[.int .i64 0, .int .i64 0, .int .i64 0, .int .i64 0] 125)).frozen? ⟨wp.heap.size, 3, none⟩ = false := fro_new _ _ _ rfl
    have x0 : (wp.alloc (.cells #[.int .i64 0, .int .i64 0, .int .i64 0, .int .i64 0] 125)).cell? ⟨wp.heap.size, 0, none⟩ = some (.int .i64 0) := cell_new _ _ _ rfl rfl
    have x1 : (wp.alloc (.cells #[.int .i64 0, .int .i64 0, .int .i64 0, .int .i64 0] 125)).cell? ⟨wp.heap.size, 1, none⟩ = some (.int .i64 0) := cell_new _ _ _ rfl rfl
    have x2 : (wp.alloc (.cells #[.int .i64 0, .int .i64 0, .int .i64 0, .int .i64 0] 125)).cell? ⟨wp.heap.size, 2, none⟩ = some (.int .i64 0) := cell_new _ _ _ rfl rfl
    have x3 : (wp.alloc (.cells #[.int .i64 0, .int .i64 0, .int .i64 0, .int .i64 0] 125)).cell? ⟨wp.heap.size, 3, none⟩ = some (.int .i64 0) := cell_new _ _ _ rfl rfl
    have cO := cell_old (.cells #[.int .i64 (ds x.1.val x.2.val 0), .int .i64 (ds x.1.val x.2.val 1), .int .i64 (ds x.1.val x.2.val 2), .int .i64 (ds x.1.val x.2.val 3)] 125) (boxed_below HbOth.out (HBW.out.trans (HBP.out.mono hsW)) hw1l).cell
    gi_wp2
    refine ⟨trivial, ?_⟩
    refine (CallsIn.inRound l (pairs_in (n - 1 - 1 - 1) _ _ _ _)).mono ?_
    rintro e w' ⟨rfl, rfl⟩
    gi_wp2
    clear f0 f1 f2 f3 x0 x1 x2 x3 cO
    obtain ⟨ws, hws⟩ : ∃ ws : World, ws = wp.alloc (.cells #[.int .i64 (ds x.1.val x.2.val 0), .int .i64 (ds x.1.val x.2.val 1), .int .i64 (ds x.1.val x.2.val 2), .int .i64 (ds x.1.val x.2.val 3)] 125) := ⟨_, rfl⟩
    have hss : ws.heap.size = wp.heap.size + 1 := by rw [hws]; simp
    have s0 : ws.cell? ⟨wp.heap.size, 0, none⟩ = some (.int .i64 (ds x.1.val x.2.val 0)) := by rw [hws]; exact cell_new _ _ _ rfl rfl
    have s1 : ws.cell? ⟨wp.heap.size, 1, none⟩ = some (.int .i64 (ds x.1.val x.2.val 1)) := by rw [hws]; exact cell_new _ _ _ rfl rfl
    have s2 : ws.cell? ⟨wp.heap.size, 2, none⟩ = some (.int .i64 (ds x.1.val x.2.val 2)) := by rw [hws]; exact cell_new _ _ _ rfl rfl
    have s3 : ws.cell? ⟨wp.heap.size, 3, none⟩ = some (.int .i64 (ds x.1.val x.2.val 3)) := by rw [hws]; exact cell_new _ _ _ rfl rfl
    have HWs := Lib.hid (show Below W.heap.size W ws by rw [hws]; exact HBP.out.alloc hsp _)
    rw [← hws]
    clear hws
    have bOi := Boxed.new ws 23 (.slice po oth.length co)
    have hbi := below_alloc ws (.cells #[.slice po oth.length co] 23)
    obtain ⟨wi, hwi⟩ : ∃ wi : World, wi = ws.alloc (.cells #[.slice po oth.length co] 23) := ⟨_, rfl⟩
    have hsi : wi.heap.size = ws.heap.size + 1 := by rw [hwi]; simp
    rw [← hwi] at bOi hbi ⊢
    clear hwi
    have HWi := Lib.hid (HWs.out.trans (hbi.mono HWs.out.size))
    have HS := Lib.hid (show wi.cell? ⟨wp.heap.size, 0, none⟩ = some (.int .i64 (ds x.1.val x.2.val 0)) ∧ wi.cell? ⟨wp.heap.size, 1, none⟩ = some (.int .i64 (ds x.1.val x.2.val 1)) ∧ wi.cell? ⟨wp.heap.size, 2, none⟩ = some (.int .i64 (ds x.1.val x.2.val 2)) ∧ wi.cell? ⟨wp.heap.size, 3, none⟩ = some (.int .i64 (ds x.1.val x.2.val 3)) from ⟨cell_below hbi s0 (by omega), cell_below hbi s1 (by omega), cell_below hbi s2 (by omega), cell_below hbi s3 (by omega)⟩)
    rw [hss] at bOi
    have HbOi := Lib.hid bOi
    have hsWi := HWi.out.size
    have HBWi := Lib.hid (HBW.out.trans (HWi.out.mono hsW))
    have hWi : W.heap.size < wi.heap.size := by omega
    clear s0 s1 s2 s3 hbi bOi
    have hr' : wi.heap[l]? = some (.loop r) := (HWi.out.block l hlL).trans HRr.out
    refine wpIn_rangeFunc_ownN (l₀ := l) (r₀ := r) rfl hr' h1' (gf := 187) (lb := #[.pointer (some ⟨wp.heap.size + 1, 0, none⟩)]) rfl trivial (enters_of Try.func187 (by kernel_rfl) rfl)
      ((prs.stops (n - 1 - 1 - 1) (by omega) (wp.heap.size + 1) wi.heap.size po oth co HOT.out HCO.out wi (by omega) (Nat.le_refl _) HbOi.out.cell (HROL.out.below HBWi.out) (by rw [vals_length]; exact HLO.out.mono (by omega))).inRound l) belowK_t (belowK_b (Nat.le_refl _)) (Below.refl _ _) (fun _ => rfl)
      (fun pre' W' => (∀ q ∈ pre', eqS x q = false) ∧ Below wi.heap.size wi W')
      (fun c pre' W' => ∃ q : Pl × Pl, (c = .ret ∧ ∃ pre2, pre' = pre2 ++ [q] ∧ (∀ r ∈ pre2, eqS x r = false) ∧ eqS x q = true) ∧ ((∃ v, Boxed W' (w.heap.size + 1) 23 v ∧ W'.ownsRow w.heap.size 3 1 v 4 ((res x q).map (Value.int .i64)) ∧ True) ∧ (Boxed W' (w.heap.size + 1 + 1) 4 (.bool true) ∧ (Below w.heap.size W W' ∧ KeepsFrom wl.heap.size W W'))))
      (OwnFrom.and (ownFrom_pure _ _) (ownFrom_below (Nat.le_refl _) (Nat.le_refl _)))
      (fun c => ownFrom_ex fun q => OwnFrom.and (ownFrom_pure _ _) (OwnFrom.and (Own.from (holdsRow_own w.heap.size (w.heap.size + 1) 23 3 1 (fun _ => 4) (fun _ => (res x q).map (Value.int .i64)) (fun _ _ => True)) _) (OwnFrom.and (Own.from (boxed_own _ _ _) _) (OwnFrom.and (ownFrom_below (by omega) (by omega)) (ownFrom_keepsFrom (by omega))))))
      ⟨by simp, Below.refl _ _⟩
      (fun y a'' _ => a'' = { tmps := #[.slice a zs.length c, .pointer (some ⟨w.heap.size, 0, none⟩), .pointer (some ⟨w.heap.size + 1, 0, none⟩), .pointer (some ⟨w.heap.size + 1 + 1, 0, none⟩), .pointer (some ⟨w1.heap.size, 0, none⟩), .pointer (some ⟨Bx, 0, none⟩), .pointer (some ⟨By, 0, none⟩), .pointer (some ⟨wp.heap.size, 0, none⟩), .int .i64 ((y.1.val : Nat) : Int), .int .i64 ((y.2.val : Nat) : Int), .slice a zs.length c, .int .i64 zs.length, .func (.func 174) #[] #[.pointer (some ⟨w.heap.size, 0, none⟩)], .slice po oth.length co, .slice a zs.length c, .slice pn ones.length cn, .func (.func 187) #[] #[.pointer (some ⟨w3.heap.size, 0, none⟩)], .int .i64 ((x.1.val : Nat) : Int), .int .i64 ((x.2.val : Nat) : Int), .int .i64 ((x.1.val : Nat) : Int), .int .i64 ((x.2.val : Nat) : Int), .agg #[.int .i64 (ds x.1.val x.2.val 0), .int .i64 (ds x.1.val x.2.val 1), .int .i64 (ds x.1.val x.2.val 2), .int .i64 (ds x.1.val x.2.val 3)], .slice po oth.length co, .func (.func 187) #[] #[.pointer (some ⟨wp.heap.size + 1, 0, none⟩)], .int .i64 ((y.1.val : Nat) : Int), .int .i64 ((y.2.val : Nat) : Int), undef, undef, undef, undef, undef, undef, undef, undef, undef, undef, undef], defers := [] })
      (fun _ _ _ _ _ _ hs _ _ => hs)
      ?assign2 ?body2 ?done2 ?stop2
    case assign2 =>
      rintro l2 pre' y W' K hi hK
      dsimp only [encs]
      gi_wp2
      exact hK _ _ (KeepsFrom.refl _ _) (Below.refl _ _) hi rfl
    case body2 =>
      rintro l2 pre' y a'' W' _ _ ⟨hq, hBW'⟩ rfl _
      have HQ := Lib.hid hq
      have HBI := Lib.hid hBW'
      have hsI := hBW'.size
      clear hq hBW'
      have HBWi' := Lib.hid (HWi.out.trans (HBI.out.mono hsWi))
      have c0 := cell_below HBI.out HS.out.1 (by omega)
      have c1 := cell_below HBI.out HS.out.2.1 (by omega)
      have c2 := cell_below HBI.out HS.out.2.2.1 (by omega)
      have c3 := cell_below HBI.out HS.out.2.2.2 (by omega)
      have hd4 : 1 ≤ n - 1 - 1 - 1 - 1 := by omega
      have hmx : Try.prog.follows .mixedOrders = true := by kernel_rfl
      have harr := fun (wz : World) => istrade.arr_eq (ds y.1.val y.2.val 0) (ds y.1.val y.2.val 1) (ds y.1.val y.2.val 2) (ds y.1.val y.2.val 3) (ds x.1.val x.2.val 0) (ds x.1.val x.2.val 1) (ds x.1.val x.2.val 2) (ds x.1.val x.2.val 3) wz
      have HE := Lib.hid (show decide ((ds y.1.val y.2.val 0 = ds x.1.val x.2.val 0 ∧ ds y.1.val y.2.val 1 = ds x.1.val x.2.val 1) ∧ (ds y.1.val y.2.val 2 = ds x.1.val x.2.val 2 ∧ ds y.1.val y.2.val 3 = ds x.1.val x.2.val 3)) = eqS x y by unfold eqS; simp only [eq_comm])
      simp only [HE.out] at harr
      gi_wp2
      cases hxy : eqS x y
      · simp only [hxy] at harr
        gi_region_with_o (refine ⟨trivial, ?_⟩; gi_at_call 177; refine (CallsIn.inRound l2 (CallsIn.inRound l (callsIn_wide.2 (pair_sum y.1.val y.2.val _ y.1.isLt y.2.isLt)))).mono ?_; rintro e wq ⟨rfl, hbq⟩; have cc0 := cell_below hbq c0 (by first | exact Nat.lt_of_lt_of_le (show wp.heap.size < wi.heap.size by omega) hsI); have cc1 := cell_below hbq c1 (by first | exact Nat.lt_of_lt_of_le (show wp.heap.size < wi.heap.size by omega) hsI); have cc2 := cell_below hbq c2 (by first | exact Nat.lt_of_lt_of_le (show wp.heap.size < wi.heap.size by omega) hsI); have cc3 := cell_below hbq c3 (by first | exact Nat.lt_of_lt_of_le (show wp.heap.size < wi.heap.size by omega) hsI))
        all_goals gi_wp2
        all_goals (
          have hb9 : Below W'.heap.size W' wq := ⟨hbq.os, hbq.tape, hbq.output, hbq.size, hbq.block⟩
          have hl9 : ∀ q ∈ pre' ++ [y], eqS x q = false := fun q hq => (List.mem_append.1 hq).elim (fun h => HQ.out q h) (fun h => by simp at h; rw [h]; exact hxy)
          first
            | exact ⟨keepsFrom_of_below hb9, hb9.mono hsI, ⟨hl9, HBI.out.trans (hb9.mono hsI)⟩⟩
            | exact ⟨keepsFrom_of_below hb9.drew, hb9.drew.mono hsI, ⟨hl9, HBI.out.trans (hb9.drew.mono hsI)⟩⟩)
      · simp only [hxy] at harr
        gi_region_with_o (refine ⟨trivial, ?_⟩; gi_at_call 177; refine (CallsIn.inRound l2 (CallsIn.inRound l (callsIn_wide.2 (pair_sum y.1.val y.2.val _ y.1.isLt y.2.isLt)))).mono ?_; rintro e wq ⟨rfl, hbq⟩; have cc0 := cell_below hbq c0 (by first | exact Nat.lt_of_lt_of_le (show wp.heap.size < wi.heap.size by omega) hsI); have cc1 := cell_below hbq c1 (by first | exact Nat.lt_of_lt_of_le (show wp.heap.size < wi.heap.size by omega) hsI); have cc2 := cell_below hbq c2 (by first | exact Nat.lt_of_lt_of_le (show wp.heap.size < wi.heap.size by omega) hsI); have cc3 := cell_below hbq c3 (by first | exact Nat.lt_of_lt_of_le (show wp.heap.size < wi.heap.size by omega) hsI))
        all_goals (
          have hb9 : Below W'.heap.size W' wq := ⟨hbq.os, hbq.tape, hbq.output, hbq.size, hbq.block⟩
          have hW9 := HBWi'.out.trans (hb9.mono HBWi'.out.size)
          have hL9 := HBW.out.trans (hW9.mono hsW)
          have cX9 := (boxed_below HbX.out hW9 hlX).cell
          have cY9 := (boxed_below HbY.out hW9 hlY).cell
          have hR9 := boxed_below HbRL.out hL9 (by omega)
          have hO9 := boxed_below HbOL.out hL9 (by omega)
          have hs9 := hb9.size
          have HW9 := Lib.hid hW9
          have HL9 := Lib.hid hL9
          have HR9 := Lib.hid hR9
          have HO9 := Lib.hid hO9
          have cR9 := (hR9.alloc (.cells #[.int .i64 ((x.1.val : Nat) : Int), .int .i64 ((x.2.val : Nat) : Int), .int .i64 ((y.1.val : Nat) : Int), .int .i64 ((y.2.val : Nat) : Int)] 3)).cell
          have fR9 := (hR9.alloc (.cells #[.int .i64 ((x.1.val : Nat) : Int), .int .i64 ((x.2.val : Nat) : Int), .int .i64 ((y.1.val : Nat) : Int), .int .i64 ((y.2.val : Nat) : Int)] 3)).frozen
          have cO9 := (hO9.alloc (.cells #[.int .i64 ((x.1.val : Nat) : Int), .int .i64 ((x.2.val : Nat) : Int), .int .i64 ((y.1.val : Nat) : Int), .int .i64 ((y.2.val : Nat) : Int)] 3)).cell
          have fO9 := (hO9.alloc (.cells #[.int .i64 ((x.1.val : Nat) : Int), .int .i64 ((x.2.val : Nat) : Int), .int .i64 ((y.1.val : Nat) : Int), .int .i64 ((y.2.val : Nat) : Int)] 3)).frozen
          clear hW9 hL9 hR9 hO9)
        all_goals gi_wp2
        all_goals (
          have hne : w.heap.size + 1 ≠ w.heap.size + 1 + 1 := by omega
          have hwq : w.heap.size + 3 ≤ wq.heap.size := by omega
          have hRow : (wq.alloc (.cells #[.int .i64 ((x.1.val : Nat) : Int), .int .i64 ((x.2.val : Nat) : Int), .int .i64 ((y.1.val : Nat) : Int), .int .i64 ((y.2.val : Nat) : Int)] 3)).ownsRow w.heap.size 3 1 (.slice (some ⟨wq.heap.size, 0, none⟩) 4 4) 4 ((res x y).map (Value.int .i64)) := ⟨rfl, .inr ⟨wq.heap.size, 4, #[.int .i64 ((x.1.val : Nat) : Int), .int .i64 ((x.2.val : Nat) : Int), .int .i64 ((y.1.val : Nat) : Int), .int .i64 ((y.2.val : Nat) : Int)], rfl, by omega, heap_alloc_new wq _, Nat.le_refl _, by unfold maxLen; omega, rfl, rfl⟩⟩
          have hKO := (KeepsOthers.alloc wq (.cells #[.int .i64 ((x.1.val : Nat) : Int), .int .i64 ((x.2.val : Nat) : Int), .int .i64 ((y.1.val : Nat) : Int), .int .i64 ((y.2.val : Nat) : Int)] 3)).trans ((KeepsOthers.setCell (wq.alloc (.cells #[.int .i64 ((x.1.val : Nat) : Int), .int .i64 ((x.2.val : Nat) : Int), .int .i64 ((y.1.val : Nat) : Int), .int .i64 ((y.2.val : Nat) : Int)] 3)) ⟨w.heap.size + 1, 0, none⟩ (.slice (some ⟨wq.heap.size, 0, none⟩) 4 4)).trans (KeepsOthers.setCell _ ⟨w.heap.size + 1 + 1, 0, none⟩ (.bool true)))
          refine ⟨(keepsFrom_of_below hb9).trans (hKO.from _), y, ⟨rfl, pre', rfl, HQ.out, hxy⟩, ⟨_, ((HR9.out.alloc (.cells #[.int .i64 ((x.1.val : Nat) : Int), .int .i64 ((x.2.val : Nat) : Int), .int .i64 ((y.1.val : Nat) : Int), .int .i64 ((y.2.val : Nat) : Int)] 3)).set _).other hne _, ?_, trivial⟩, ((HO9.out.alloc (.cells #[.int .i64 ((x.1.val : Nat) : Int), .int .i64 ((x.2.val : Nat) : Int), .int .i64 ((y.1.val : Nat) : Int), .int .i64 ((y.2.val : Nat) : Int)] 3)).other hne.symm _).set _, ?_, (keepsFrom_of_below HW9.out).trans (hKO.from _)⟩
          · exact ownsRow_block hRow (fun g hg => by simp [Value.ownBlock] at hg; subst hg; rw [Below.heap_setCell _ _ _ _ (by show wq.heap.size ≠ w.heap.size + 1 + 1; omega), Below.heap_setCell _ _ _ _ (by show wq.heap.size ≠ w.heap.size + 1; omega)])
          · exact (((HW9.out.mono (by omega)).alloc (Nat.le_trans (by omega) HW9.out.size) _).setCell (by show w.heap.size ≤ w.heap.size + 1; omega) _).setCell (by show w.heap.size ≤ w.heap.size + 1 + 1; omega) _)
    case done2 =>
      rintro ys' W' rfl ⟨hq, hBW'⟩
      gi_wp2
      have hB2 := HWi.out.trans (hBW'.mono hsWi)
      exact ⟨keepsFrom_of_below hB2, hB2.mono hsW, ⟨fun p hp r hr => (List.mem_append.1 hp).elim (fun h => HP.out p h r hr) (fun h => by simp at h; subst h; exact hq r hr), HBW.out.trans (hB2.mono hsW)⟩⟩
    case stop2 =>
      rintro c' pre' W' hpre ⟨q, ⟨rfl, pre2, rfl, hno, hyes⟩, hrow, hok, hBW', hKF⟩
      gi_wp2
      exact ⟨hKF, (x, q), ⟨rfl, pre, pre2, rfl, HP.out, hpre, hno, hyes⟩, hrow, hok, (HBL.out.trans (HBW.out.mono (by omega))).trans hBW'⟩
  case done =>
    rintro D ys W hD rfl ⟨hp, hB1⟩ hK
    have hsW := hB1.size
    have hR9 := boxed_below HbRL.out hB1 (by omega)
    have hO9 := boxed_below HbOL.out hB1 (by omega)
    have HR9 := Lib.hid hR9
    have HO9 := Lib.hid hO9
    have HK9 := Lib.hid hK
    have HP := Lib.hid hp
    have HBW := Lib.hid (HBL.out.trans (hB1.mono (by omega)))
    have cR9 := (hR9.alloc (.cells #[] 3)).cell
    have fR9 := (hR9.alloc (.cells #[] 3)).frozen
    have cO9 := (hO9.alloc (.cells #[] 3)).cell
    have fO9 := (hO9.alloc (.cells #[] 3)).frozen
    clear hR9 hO9 hK hp hB1
    gi_wp2
    have hne : w.heap.size + 1 ≠ w.heap.size + 1 + 1 := by omega
    have hKO := (KeepsOthers.alloc W (.cells #[] 3)).trans ((KeepsOthers.setCell (W.alloc (.cells #[] 3)) ⟨w.heap.size + 1, 0, none⟩ (.slice (some ⟨W.heap.size, 0, none⟩) 0 0)).trans (KeepsOthers.setCell _ ⟨w.heap.size + 1 + 1, 0, none⟩ (.bool false)))
    have hK' := hKO.same D _ HK9.out rfl
    have bR := ((HR9.out.alloc (.cells #[] 3)).set (.slice (some ⟨W.heap.size, 0, none⟩) 0 0)).other hne (.bool false)
    have bO := ((HO9.out.alloc (.cells #[] 3)).other hne.symm (.slice (some ⟨W.heap.size, 0, none⟩) 0 0)).set (.bool false)
    refine ⟨by simp, .inl ⟨_, _, rfl, run_takeDeferred hK', ?_⟩⟩
    have hcR := cell_kept bR.cell (grownBy_putObj' _ D (.deferred none)) (fun r e => by cases e; exact ⟨_, hK', rfl⟩)
    have hcO := cell_kept bO.cell (grownBy_putObj' _ D (.deferred none)) (fun r e => by cases e; exact ⟨_, hK', rfl⟩)
    have hDl := (Array.getElem?_eq_some_iff.1 HK9.out).1
    refine ⟨.tuple #[.slice (some ⟨W.heap.size, 0, none⟩) 0 0, .bool false], by simp [results, Try.results158, go_sem, hcR, hcO], _, [], false, rfl, ?_, .inr ⟨rfl, rfl, HP.out⟩, ?_⟩
    · refine (OwnI.block (own_empty W) (fun g hg => ?_)).mono (by omega) (by simp)
      simp [Value.ownBlock] at hg
      subst hg
      rw [World.putObj_heap_other (by omega), Below.heap_setCell _ _ _ _ (by show W.heap.size ≠ w.heap.size + 1 + 1; omega), Below.heap_setCell _ _ _ _ (by show W.heap.size ≠ w.heap.size + 1; omega)]
    · exact (((HBW.out.alloc HBW.out.size _).setCell (by show w.heap.size ≤ w.heap.size + 1; omega) _).setCell (by show w.heap.size ≤ w.heap.size + 1 + 1; omega) _).trans (belowK_b (w := w) (Nat.le_refl _) _ D _ _ (by omega) hK' rfl rfl)
  case stop =>
    rintro D c' pre W hD hpre ⟨⟨x, q⟩, ⟨rfl, pre0, pre2, rfl, hno, hq, hno2, hyes⟩, ⟨v, bR, hrow, _⟩, bO, hBW⟩ hK
    gi_wp2
    refine ⟨by simp, .inl ⟨_, _, rfl, run_takeDeferred hK, ?_⟩⟩
    have hcR := cell_kept bR.cell (grownBy_putObj' _ D (.deferred none)) (fun r e => by cases e; exact ⟨_, hK, rfl⟩)
    have hcO := cell_kept bO.cell (grownBy_putObj' _ D (.deferred none)) (fun r e => by cases e; exact ⟨_, hK, rfl⟩)
    refine ⟨.tuple #[v, .bool true], by simp [results, Try.results158, go_sem, hcR, hcO], v, res x q, .inr ⟨rfl, ?_, .inl ⟨rfl, pre0, x, pre2, q, hpre, hno, hq, hno2, hyes, rfl⟩, ?_⟩⟩
    · exact OwnI.of (ownsRow_putObj hrow _ hK rfl)
    · exact hBW.trans (belowK_b (w := w) (Nat.le_refl _) W D _ _ (by omega) hK rfl rfl)
end Go.Proofs.Ytldimbipjjjghaa.firstw
