/- Several texts in one. -/
import Derived.Lib.Hide
import Derived.LoopIn
import Derived.LoopNIn
import Derived.Maps.AppendAt
import Derived.OwnWalkIn
import Derived.RangeFuncBound
import Derived.RangeFuncBox
import Derived.RangeFuncCalls
import Derived.RangeFuncLeaves
import Derived.RangeFuncNested
import Derived.Shelf.Abstract
import Derived.Shelf.RegionOpen
import Derived.TacticsInMore
import Derived.WalkKit
import Derived.Test.YtoephhhofkmgjabSpG27
import Derived.Test.YtoephhhofkmgjabSpG17
import Derived.Test.YtoephhhofkmgjabSpG15
import Derived.Test.YtoephhhofkmgjabSpG6
namespace Go.Proofs.Ytoephhhofkmgjab.cubat
open Go Go.RowKit Go.Shelf own rangep cub
set_option linter.unusedVariables false
set_option linter.unusedSimpArgs false
attribute [local go_sem] Oper.semAt_some

/-- 'make([]T, n)' at a fenced goal. -/
theorem wpListIn_make_full {F : Fence} {n : Nat} {P : Program} (w : World) {ops : Array Oper} {rest : List Oper} {o : Oper} {a : Act} {Q : Exit → Act → World → Prop}
    (hg : o.guard = none) (l c : Operand) (t : TypeId) (hop : o.op = Op.makeSlice t l c)
    (base : Nat) (e : TypeId) (i : TypeInfo) (z : Value) (size : Nat) (h1 : P.underlying t = some (.slice e)) (h2 : P.info? e = some i) (h3 : i.zero = some z) (h4 : i.size = size)
    (kl kc : IntKind) (L C : Int) (m : Nat) (hl : a.eval l = .int kl L) (hc : a.eval c = .int kc C) (hL : L = (m : Int)) (hC : C = (m : Int)) (b2 : i.bytes * m ≤ 281474976710656) (b3 : m ≤ maxLen) (b4 : base ≤ w.heap.size)
    (hK : ∀ w', w'.ownsRow base e size (.slice (some ⟨w.heap.size, 0, none⟩) m m) m (madeCells z.cells (m * size)).toList → w.grownBy w' none → wpListIn F n P ops Q rest (a.put o.dst (.slice (some ⟨w.heap.size, 0, none⟩) m m)) w') :
    wpListIn F n P ops Q (o :: rest) a w := by
  refine wpListIn_plain hg fun K hK' => ?_
  obtain ⟨w', hrun, r1, r2⟩ := run_make_full (P := P) w base t e i z size h1 h2 h3 h4 kl kc m b2 b3 b4
  subst hL
  subst hC
  unfold Oper.wpIn
  refine ⟨?_, ?_⟩
  · simp [Oper.about, hop]
  · rw [Oper.semAt_plain F _ _ (by rw [hop]; intro c hc'; cases hc')]
    simp [execOp, hop, hl, hc, hrun, Result.andThen]
    exact hK' _ _ (hK w' r1 r2)

/-- All but two blocks of the old ones lie as they did. -/
def But (g B : Nat) (w w' : World) : Prop := w'.os = w.os ∧ w'.tape = w.tape ∧ w'.output = w.output ∧ w.heap.size ≤ w'.heap.size ∧ ∀ k, k < w.heap.size → k ≠ g → k ≠ B → w'.heap[k]? = w.heap[k]?
theorem But.refl (g B : Nat) (w : World) : But g B w w := ⟨rfl, rfl, rfl, Nat.le_refl _, fun _ _ _ _ => rfl⟩
theorem ownFrom_but {β : Type} {g B N : Nat} {w : World} (hN : w.heap.size ≤ N) : OwnFrom N (fun (_ : β) W => But g B w W) := by
  rintro s W W' row ⟨h1, h2, h3, h4, h5⟩ hg hr
  exact ⟨hg.os.trans h1, hg.tape.trans h2, hg.output.trans h3, Nat.le_trans h4 hg.size, fun k hk n1 n2 => (hg.block k (by omega) (fun e => by have := (hr k e.symm).1; omega)).trans (h5 k hk n1 n2)⟩
theorem But.boxed {g B k : Nat} {w w' : World} {t : TypeId} {v : Value} (h : But g B w w') (hb : Boxed w k t v) (n1 : k ≠ g) (n2 : k ≠ B) : Boxed w' k t v := (h.2.2.2.2 k hb.lt n1 n2).trans hb
theorem But.cell {g B k o : Nat} {w w' : World} {v : Value} (h : But g B w w') (hc : w.cell? ⟨k, o, none⟩ = some v) (hk : k < w.heap.size) (n1 : k ≠ g) (n2 : k ≠ B) : w'.cell? ⟨k, o, none⟩ = some v := (World.cell?_of_block (h.2.2.2.2 k hk n1 n2)).trans hc
theorem But.below {g B N : Nat} {w w' : World} (h : But g B w w') (h1 : N ≤ w.heap.size) (hg : N ≤ g) (hB : N ≤ B) : Below N w w' := ⟨h.1, h.2.1, h.2.2.1, h.2.2.2.1, fun k hk => h.2.2.2.2 k (by omega) (by omega) (by omega)⟩
theorem rd_putObj {Bn k c : Nat} {pa : Option Addr} (W : World) (l : Nat) (o o' : Obj) (hl : W.heap[l]? = some o) (ho : o.isCells = false) (h : bw.Rd Bn pa k c W) : bw.Rd Bn pa k c (W.putObj l o') := by
  obtain ⟨h1, zs, hz, hr⟩ := h
  have kp : ∀ {a v}, W.cell? a = some v → (W.putObj l o').cell? a = some v := fun hc => cell_kept hc (grownBy_putObj' _ l o') (fun r e => by cases e; exact ⟨_, hl, ho⟩)
  refine ⟨kp h1, zs, hz, ?_⟩
  rcases hr with rfl | ⟨b, off, e, hb, hc⟩
  · exact .inl rfl
  · exact .inr ⟨b, off, e, Nat.lt_of_lt_of_le hb (grownBy_putObj' W l o').size, fun i hi => kp (hc i hi)⟩

theorem walk {F : Fence} {n : Nat} {P : Program} {md : Region.Mode} {ops : Array Oper} {Q : Exit → Act → World → Prop} {k : Nat} {listed : Array Bool} {a : Act} {w : World} (h : ∀ G : Nat → Array Bool → Act → World → Prop, G = wpAnyIn F n P md ops Q → G k listed a w) : wpAnyIn F n P md ops Q k listed a w := h _ rfl
theorem but_set {g B u : Nat} {b : Nat} {w w' : World} {v : Value} (h : But g B w w') (hb : b = g ∨ b = B) : But g B w (w'.setCell ⟨b, u, none⟩ v) := by
  obtain ⟨h1, h2, h3, h4, h5⟩ := h
  refine ⟨h1, h2, h3, by simpa [World.setCell] using h4, fun k hk n1 n2 => (Below.heap_setCell _ _ _ _ ?_).trans (h5 k hk n1 n2)⟩
  show k ≠ b
  rcases hb with rfl | rfl <;> assumption
theorem But.trans {g B : Nat} {w w' w2 : World} (h : But g B w w') (k : But g B w' w2) : But g B w w2 :=
  ⟨k.1.trans h.1, k.2.1.trans h.2.1, k.2.2.1.trans h.2.2.1, Nat.le_trans h.2.2.2.1 k.2.2.2.1, fun i hi n1 n2 => (k.2.2.2.2 i (Nat.lt_of_lt_of_le hi h.2.2.2.1) n1 n2).trans (h.2.2.2.2 i hi n1 n2)⟩
theorem But.keepsFrom {g B N : Nat} {w w' : World} (h : But g B w w') (hg : g < N) (hB : B < N) : KeepsFrom N w w' := ⟨h.2.2.2.1, fun k o hk ho _ => (h.2.2.2.2 k (Array.getElem?_eq_some_iff.1 ho).1 (by omega) (by omega)).trans ho⟩
theorem row_own {β : Type} (n₀ : Nat) (e : TypeId) (size : Nat) (v : Value) (k : β → Nat) (f : β → List Value) : Own (fun s W => W.ownsRow n₀ e size v (k s) (f s)) := by
  rintro s X Y row hr hg hrow
  refine hr.kept hg ?_
  rcases hr.2 with ⟨rfl, _⟩ | ⟨g, cap, cur, rfl, _, hgb, _⟩
  · exact .inl rfl
  · right
    intro e'
    obtain ⟨o, ho, hc⟩ := hrow g e'.symm
    rw [hgb] at ho; cases ho; cases hc
theorem boxed_below {W W' : World} {N B : Nat} {t : TypeId} {v : Value} (h : Boxed W B t v) (hb : Below N W W') (hB : B < N) : Boxed W' B t v := (hb.block B hB).trans h
set_option maxRecDepth 100000 in
set_option maxHeartbeats 4000000 in
theorem at_in (d : Nat) (hd : 6 ≤ d) (n L p : Nat) (w : World) (hn : n ≤ 1048576) (hL : L ≤ 1048576) (hp : p ≤ 1048576) :
    CallsIn Fence.wide d Try.prog 117 #[.agg #[.int .i64 n, .int .i64 L], .int .i64 p] w fun e W' => ∃ v, e = .returned v ∧ OwnI w.heap.size W'.heap.size W' v (cub n L p) ∧ Below w.heap.size w W' := by
  have hn1 : 1 ≤ d := by omega
  obtain ⟨i0, hi, hz0, hz1, hz2⟩ := info_parts mk.infoInt
  refine callsIn_of_wp_marks Try.func117 rfl trivial ?_ rfl
  simp only [Try.ntmps117, List.size_toArray, List.length_cons, List.length_nil, Nat.reduceAdd, Nat.reduceSub, Array.replicate_succ, Array.replicate_zero, List.push_toArray, List.append_toArray, List.nil_append, List.cons_append]
  have k0 : (0 : Int) ≤ (n : Int) := by omega
  have k1 : (n : Int) ≤ 1048576 := by omega
  have k2 : (0 : Int) ≤ (L : Int) := by omega
  have k3 : (L : Int) ≤ 1048576 := by omega
  gi_wp2_with (gi_at_make; refine wpListIn_make_full _ rfl _ _ 22 rfl w.heap.size 3 i0 (.int .i64 0) 1 Try.underlying22 hi hz0 hz1 .i64 .i64 _ _ n rfl rfl rfl rfl (by rw [hz2]; omega) (by unfold maxLen; omega) (by simp; omega) ?_; intro w1 hown1 hgrow1; refine Hid.out ?_)
  refine Lib.hid ?_
  obtain ⟨w3, hw3⟩ : ∃ w3 : World, w3 = ((w.alloc (.cells #[.int .i64 n, .int .i64 L] 100)).alloc (.cells #[.int .i64 p] 3)).alloc (.cells #[.int .i64 (2 * (L : Int) + 1)] 3) := ⟨_, rfl⟩
  have hs3 : w3.heap.size = w.heap.size + 3 := by rw [hw3]; simp
  have hB3 : Below w.heap.size w w3 := by rw [hw3]; exact (((Below.refl _ w).alloc (Nat.le_refl _) _).alloc (by simp) _).alloc (by simp; omega) _
  have c0 : w3.cell? ⟨w.heap.size, 0, none⟩ = some (.int .i64 n) := by rw [hw3]; exact cell_old _ (cell_old _ (cell_new _ _ _ (by simp) rfl))
  have c1 : w3.cell? ⟨w.heap.size, 1, none⟩ = some (.int .i64 L) := by rw [hw3]; exact cell_old _ (cell_old _ (cell_new _ _ _ (by simp) rfl))
  have bP : Boxed w3 (w.heap.size + 1) 3 (.int .i64 p) := by
    rw [hw3]
    have := (Boxed.new (w.alloc (.cells #[.int .i64 n, .int .i64 L] 100)) 3 (.int .i64 p)).alloc (.cells #[.int .i64 (2 * (L : Int) + 1)] 3)
    rwa [World.size_alloc] at this
  have bB : Boxed w3 (w.heap.size + 1 + 1) 3 (.int .i64 (2 * (L : Int) + 1)) := by
    rw [hw3]
    have := Boxed.new ((w.alloc (.cells #[.int .i64 n, .int .i64 L] 100)).alloc (.cells #[.int .i64 p] 3)) 3 (.int .i64 (2 * (L : Int) + 1))
    rwa [World.size_alloc, World.size_alloc] at this
  rw [← hw3] at hown1 hgrow1
  clear hw3
  have hb1 : Below w3.heap.size w3 w1 := (Below.refl _ _).grown hgrow1 (Nat.le_refl _) (by simp)
  have hs1 : w3.heap.size < w1.heap.size := by
    rcases hown1.2 with ⟨h, _⟩ | ⟨g, cap, cur, h, _, hh, _⟩
    · cases h
    · cases h; exact (Array.getElem?_eq_some_iff.1 hh).1
  rw [show (Value.int .i64 0).cells = #[Value.int .i64 0] from rfl, Nat.mul_one, toList_madeCells_one] at hown1
  have HO1 := Lib.hid (show w1.ownsRow w.heap.size 3 1 (.slice (some ⟨w.heap.size + 1 + 1 + 1, 0, none⟩) n n) n ((cubTo n L p 0).map (Value.int .i64)) by rw [cubTo_zero, List.map_replicate]; rw [hs3] at hown1; exact hown1)
  have HB1 := Lib.hid (hB3.trans (hb1.mono hB3.size))
  have C0 := cell_below hb1 c0 (by omega)
  have C1 := cell_below hb1 c1 (by omega)
  have BP := Lib.hid (boxed_below bP hb1 (by omega))
  have BB := Lib.hid (boxed_below bB hb1 (by omega))
  have HC := Lib.hid (And.intro C0 C1)
  clear c0 c1 bP bB hown1 hgrow1 hb1 hB3 C0 C1
  have xf : (w1.alloc (.cells #[.slice none 0 0] 22)).frozen? ⟨w1.heap.size, 0, none⟩ = false := fro_new _ _ _ rfl
  have xc : (w1.alloc (.cells #[.slice none 0 0] 22)).cell? ⟨w1.heap.size, 0, none⟩ = some (.slice none 0 0) := cell_new _ _ _ rfl rfl
  gi_wp2_with (refine ⟨trivial, ?_⟩; gi_at_call 136; refine (bw.backward_in (d - 1) _ _ _ _).mono ?_; rintro e w' ⟨rfl, rfl⟩)
  clear xf xc
  obtain ⟨wl, hwl⟩ : ∃ wl : World, wl = (w1.alloc (.cells #[.slice (some ⟨w.heap.size + 1 + 1 + 1, 0, none⟩) n n] 22)).alloc (.cells #[.slice (some ⟨w.heap.size + 1 + 1 + 1, 0, none⟩) n n] 22) := ⟨_, rfl⟩
  have hsl : wl.heap.size = w1.heap.size + 2 := by rw [hwl]; simp
  have hbl : Below w1.heap.size w1 wl := by rw [hwl]; exact ((Below.refl _ w1).alloc (Nat.le_refl _) _).alloc (by simp) _
  have bS : Boxed wl w1.heap.size 22 (.slice (some ⟨w.heap.size + 1 + 1 + 1, 0, none⟩) n n) := by rw [hwl]; exact (Boxed.new w1 _ _).alloc _
  have bQ : Boxed wl (w1.heap.size + 1) 22 (.slice (some ⟨w.heap.size + 1 + 1 + 1, 0, none⟩) n n) := by
    rw [hwl]
    have := Boxed.new (w1.alloc (.cells #[.slice (some ⟨w.heap.size + 1 + 1 + 1, 0, none⟩) n n] 22)) 22 (.slice (some ⟨w.heap.size + 1 + 1 + 1, 0, none⟩) n n)
    rwa [World.size_alloc] at this
  rw [← hwl]
  clear hwl
  have HS := Lib.hid bS
  have HQ := Lib.hid bQ
  have HBL := Lib.hid (HB1.out.trans (hbl.mono HB1.out.size))
  have HC2 := Lib.hid (And.intro (cell_below hbl HC.out.1 (by omega)) (cell_below hbl HC.out.2 (by omega)))
  have BP2 := Lib.hid (boxed_below BP.out hbl (by omega))
  have BB2 := Lib.hid (boxed_below BB.out hbl (by omega))
  have HO2 := Lib.hid (ownsRow_block HO1.out (w' := wl) (fun g hg => by simp [Value.ownBlock] at hg; subst hg; exact hbl.block _ (by omega)))
  have rd : ∀ (W : World) (xs : List Int), Boxed W (w1.heap.size + 1) 22 (.slice (some ⟨w.heap.size + 1 + 1 + 1, 0, none⟩) n n) → xs.length = n → W.ownsRow w.heap.size 3 1 (.slice (some ⟨w.heap.size + 1 + 1 + 1, 0, none⟩) n n) n (xs.map (Value.int .i64)) → bw.Rd (w1.heap.size + 1) (some ⟨w.heap.size + 1 + 1 + 1, 0, none⟩) n n W := by
    intro W xs hb hx hr
    subst hx
    obtain ⟨a9, c9, e9, hr9, _, _⟩ := (OwnI.of hr).slice
    cases e9
    exact ⟨hb.cell, xs, rfl, hr9⟩
  have RD := Lib.hid rd
  clear rd hbl bS bQ HC BP BB HO1 HB1
  refine range_p (F := Fence.wide) rfl hn1 (gf := 146) (lb := #[.pointer (some ⟨w1.heap.size + 1, 0, none⟩)]) rfl trivial (enters_of Try.func146 (by kernel_rfl) rfl)
    (bw.seq (d - 1) (by omega) (w1.heap.size + 1) (some ⟨w.heap.size + 1 + 1 + 1, 0, none⟩) n n hn wl (by omega) (RD.out _ _ HQ.out (cubTo_length n L p 0) HO2.out)) (fun h k r => k (h r)) (fun W l o o' _ h1 h2 _ h3 => rd_putObj W l o o' h1 h2 h3) (Below.refl _ _) (fun _ => rfl)
    (fun pre W => Boxed W (w.heap.size + 1) 3 (.int .i64 ((p / (2 * L + 1) ^ pre.length : Nat) : Int)) ∧ (W.ownsRow w.heap.size 3 1 (.slice (some ⟨w.heap.size + 1 + 1 + 1, 0, none⟩) n n) n ((cubTo n L p pre.length).map (Value.int .i64)) ∧ But (w.heap.size + 1 + 1 + 1) (w.heap.size + 1) wl W))
    (fun _ _ _ => False)
    (OwnFrom.and (Own.from (boxed_own _ _ (fun pre : List (Nat × Int) => Value.int .i64 ((p / (2 * L + 1) ^ pre.length : Nat) : Int))) _) (OwnFrom.and (Own.from (row_own _ _ _ _ (fun _ => n) (fun pre : List (Nat × Int) => (cubTo n L p pre.length).map (Value.int .i64))) _) (ownFrom_but (Nat.le_refl _))))
    (fun _ _ _ _ _ h _ _ => h)
    ⟨by simpa using BP2.out, by simpa using HO2.out, But.refl _ _ _⟩
    (fun _ _ _ _ _ _ h _ _ => h)
    (fun x => { tmps := #[.agg #[.int .i64 n, .int .i64 L], .int .i64 p, .pointer (some ⟨w.heap.size, 0, none⟩), .pointer (some ⟨w.heap.size + 1, 0, none⟩), .slice none 0 0, .pointer (some ⟨w.heap.size + 1 + 1, 0, none⟩), .pointer (some ⟨w1.heap.size, 0, none⟩), .int .i64 (x.1 : Int), .pointer (some ⟨w.heap.size, 1, none⟩), .int .i64 L, .int .i64 (2 * (L : Int)), .int .i64 (2 * (L : Int) + 1), .pointer (some ⟨w.heap.size, 0, none⟩), .int .i64 n, .slice (some ⟨w.heap.size + 1 + 1 + 1, 0, none⟩) n n, .slice (some ⟨w.heap.size + 1 + 1 + 1, 0, none⟩) n n, .func (.func 146) #[] #[.pointer (some ⟨w1.heap.size + 1, 0, none⟩)], .int .i64 (x.1 : Int), .int .i64 x.2, undef, undef, undef, undef, undef, undef, undef, undef, undef, undef, undef, undef, undef], defers := [] })
    ?assign ?body ?done ?stop
  case assign =>
    rintro l x W K hK
    dsimp only [bw.encs]
    gi_wp2
    exact hK
  case stop =>
    rintro D c' pre W hD _ hF _
    exact hF.elim
  case done =>
    rintro D ys W hD hlen ⟨bP, hrow, hbut⟩ hk
    rw [hlen, cubTo_all] at hrow
    have cT := (hbut.boxed HS.out (by omega) (by omega)).cell
    have HROW := Lib.hid hrow
    have HK := Lib.hid hk
    have HBU := Lib.hid hbut
    clear hrow hk hbut bP
    gi_wp2
    refine ⟨by simp, .inl ⟨_, _, rfl, run_takeDeferred HK.out, ?_⟩⟩
    refine ⟨.slice (some ⟨w.heap.size + 1 + 1 + 1, 0, none⟩) n n, by simp [results, Try.results117, go_sem], _, rfl, ?_, ?_⟩
    · refine OwnI.of ?_
      rw [cub_length]
      exact ownsRow_putObj HROW.out _ HK.out rfl
    · exact (HBL.out.trans (HBU.out.below HBL.out.size (by omega) (by omega))).trans (belowK_b (w := w) (Nat.le_refl _) W D _ _ (by have := HBL.out.size; omega) HK.out rfl rfl)
  case body =>
    rintro l pre ⟨u, z⟩ W ⟨bP, hrow, hbut⟩ hpx
    have hpx : pre.length + u + 1 = n := hpx
    have cT := (hbut.boxed HS.out (by omega) (by omega)).cell
    have cP := bP.cell
    have fP := bP.frozen
    have cB := (hbut.boxed BB2.out (by omega) (by omega)).cell
    have cL := hbut.cell HC2.out.2 (by omega) (by omega) (by omega)
    have cG := hrow.cellAt u (by omega)
    have fG := hrow.frozenAt u
    have hst := (hrow.stored u (.int .i64 (((p / (2 * L + 1) ^ pre.length % (2 * L + 1) : Nat) : Int) - L))).1
    rw [← List.map_set, cubTo_set (show u + pre.length + 1 = n by omega)] at hst
    have cG' : W.cell? ⟨w.heap.size + 1 + 1 + 1, u, none⟩ = some (.int .i64 0) := by
      rw [cG, List.getElem?_map, List.getElem?_eq_getElem (by rw [cubTo_length]; omega)]
      have := cubTo_getD (n := n) (L := L) (p := p) (i := pre.length) (u := u) (by omega)
      rw [List.getD_eq_getElem?_getD, List.getElem?_eq_getElem (by rw [cubTo_length]; omega)] at this
      simpa using this
    have HST := Lib.hid hst
    have HPP := Lib.hid bP
    have HBU := Lib.hid hbut
    have HLW := Lib.hid hbut.2.2.2.1
    have hP : p / (2 * L + 1) ^ pre.length ≤ 1048576 := Nat.le_trans (Nat.div_le_self _ _) hp
    have HN := Lib.hid (show p / (2 * L + 1) ^ pre.length / (2 * L + 1) = p / (2 * L + 1) ^ (pre ++ [(u, z)]).length by rw [Nat.div_div_eq_div_mul, List.length_append, ← Nat.pow_succ]; rfl)
    have HKEY := Lib.hid hpx
    have i1 : (0 : Int) ≤ (u : Int) := by omega
    have i2 : (u : Int) < (n : Int) := by omega
    clear hst bP hbut cG hrow hpx
    generalize p / (2 * L + 1) ^ pre.length = P at *
    have hm : (P % (2 * L + 1) : Nat) < 2 * L + 1 := Nat.mod_lt _ (by omega)
    have j1 : (0 : Int) ≤ (P : Int) := by omega
    have j2 : (P : Int) ≤ 1048576 := by omega
    have j3 : ¬ (2 * (L : Int) + 1 = 0) := by omega
    have hrem : Int.tmod (P : Int) (2 * (L : Int) + 1) = ((P % (2 * L + 1) : Nat) : Int) := by rw [Int.tmod_eq_emod_of_nonneg (by omega)]; push_cast; rfl
    have hquo : Int.tdiv (P : Int) (2 * (L : Int) + 1) = ((P / (2 * L + 1) : Nat) : Int) := by rw [Int.tdiv_eq_ediv_of_nonneg (by omega)]; push_cast; rfl
    have r1 : (0 : Int) ≤ ((P % (2 * L + 1) : Nat) : Int) := by omega
    have r2 : ((P % (2 * L + 1) : Nat) : Int) ≤ 2 * (L : Int) := by omega
    dsimp only
    have hmx : Try.prog.follows .mixedOrders = true := by kernel_rfl
    generalize ((P % (2 * L + 1) : Nat) : Int) = R at *
    have hwr : IntKind.i64.wrap (R - (L : Int)) = R - L := by rw [IntKind.wrap_i64]; omega
    gi_wp2
    refine wpIn_region_any (by assumption) ?_
    refine walk fun G hG => ?_
    have H0123456789_ : G 0 #[true, true, true, true, true, true, true, true, true, true] { tmps := #[.agg #[.int .i64 n, .int .i64 L], .int .i64 p, .pointer (some ⟨w.heap.size, 0, none⟩), .pointer (some ⟨w.heap.size + 1, 0, none⟩), .slice none 0 0, .pointer (some ⟨w.heap.size + 1 + 1, 0, none⟩), .pointer (some ⟨w1.heap.size, 0, none⟩), .int .i64 (u : Int), .pointer (some ⟨w.heap.size, 1, none⟩), .int .i64 L, .int .i64 (2 * (L : Int)), .int .i64 (2 * (L : Int) + 1), .pointer (some ⟨w.heap.size, 0, none⟩), .int .i64 n, .slice (some ⟨w.heap.size + 1 + 1 + 1, 0, none⟩) n n, .slice (some ⟨w.heap.size + 1 + 1 + 1, 0, none⟩) n n, .func (.func 146) #[] #[.pointer (some ⟨w1.heap.size + 1, 0, none⟩)], .int .i64 (u : Int), .int .i64 z, .slice (some ⟨w.heap.size + 1 + 1 + 1, 0, none⟩) n n, .int .i64 (u : Int), .int .i64 (P : Int), .int .i64 (2 * (L : Int) + 1), .int .i64 R, .pointer (some ⟨w.heap.size, 1, none⟩), .int .i64 L, .int .i64 (R - L), .pointer (some ⟨w.heap.size + 1 + 1 + 1, u, none⟩), undef, undef, undef, undef], defers := [] } (W.drew.setCell ⟨w.heap.size + 1 + 1 + 1, u, none⟩ (.int .i64 (R - L))) := by
      rw [hG]
      refine wpAnyIn_done (by kernel_rfl) ?_ _
      obtain ⟨W9, hW9⟩ : ∃ W9 : World, W9 = W.drew.setCell ⟨w.heap.size + 1 + 1 + 1, u, none⟩ (.int .i64 (R - L)) := ⟨_, rfl⟩
      have hb9 : But (w.heap.size + 1 + 1 + 1) (w.heap.size + 1) W W9 := by rw [hW9]; exact but_set (show But _ _ W W.drew from ⟨rfl, rfl, rfl, Nat.le_refl _, fun _ _ _ _ => rfl⟩) (.inl rfl)
      have bP9 : Boxed W9 (w.heap.size + 1) 3 (.int .i64 (P : Int)) := by rw [hW9]; exact (Below.heap_setCell _ _ _ _ (by show w.heap.size + 1 ≠ w.heap.size + 1 + 1 + 1; omega)).trans HPP.out
      have cP9 := bP9.cell
      have fP9 := bP9.frozen
      have cB9 := (hb9.boxed (HBU.out.boxed BB2.out (by omega) (by omega)) (by omega) (by omega)).cell
      have hr9 : W9.ownsRow w.heap.size 3 1 (.slice (some ⟨w.heap.size + 1 + 1 + 1, 0, none⟩) n n) n ((cubTo n L p (pre.length + 1)).map (Value.int .i64)) := by rw [hW9]; exact HST.out
      have HB9 := Lib.hid hb9
      have HP9 := Lib.hid bP9
      have HR9 := Lib.hid hr9
      clear hG cT cP fP cB cL cG' fG HST
      rw [← hW9]
      clear hW9 hb9 bP9 hr9
      have hq : wrap64 ((P : Int) / (2 * (L : Int) + 1)) = ((P / (2 * L + 1) : Nat) : Int) := by
        have hle : P / (2 * L + 1) ≤ P := Nat.div_le_self _ _
        rw [show (P : Int) / (2 * (L : Int) + 1) = ((P / (2 * L + 1) : Nat) : Int) by push_cast; rfl]
        have hle2 : P / (2 * L + 1) ≤ 1048576 := Nat.le_trans hle hP
        clear hle hquo hrem HN
        generalize P / (2 * L + 1) = q9 at hle2 ⊢
        unfold wrap64
        omega
      gi_wp2
      rw [hq]
      have bP10 := HP9.out.set (.int .i64 ((P / (2 * L + 1) : Nat) : Int))
      have hb10 := but_set (u := 0) (v := .int .i64 ((P / (2 * L + 1) : Nat) : Int)) HB9.out (.inr rfl)
      have hr10 := ownsRow_block HR9.out (w' := W9.setCell ⟨w.heap.size + 1, 0, none⟩ (.int .i64 ((P / (2 * L + 1) : Nat) : Int))) (fun g hg => by simp [Value.ownBlock] at hg; subst hg; exact Below.heap_setCell _ _ _ _ (by show w.heap.size + 1 + 1 + 1 ≠ w.heap.size + 1; omega))
      have hbw := HBU.out.trans hb10
      refine ⟨hb10.keepsFrom (by omega) (by omega), fun _ => RD.out _ _ (hbw.boxed HQ.out (by omega) (by omega)) (cubTo_length n L p (pre.length + 1)) hr10, ?_, ?_, hbw⟩
      · rw [← HN.out]; exact bP10
      · rw [List.length_append]; exact hr10
    have H012345678_ : G 1 #[true, true, true, true, true, true, true, true, true, false] { tmps := #[.agg #[.int .i64 n, .int .i64 L], .int .i64 p, .pointer (some ⟨w.heap.size, 0, none⟩), .pointer (some ⟨w.heap.size + 1, 0, none⟩), .slice none 0 0, .pointer (some ⟨w.heap.size + 1 + 1, 0, none⟩), .pointer (some ⟨w1.heap.size, 0, none⟩), .int .i64 (u : Int), .pointer (some ⟨w.heap.size, 1, none⟩), .int .i64 L, .int .i64 (2 * (L : Int)), .int .i64 (2 * (L : Int) + 1), .pointer (some ⟨w.heap.size, 0, none⟩), .int .i64 n, .slice (some ⟨w.heap.size + 1 + 1 + 1, 0, none⟩) n n, .slice (some ⟨w.heap.size + 1 + 1 + 1, 0, none⟩) n n, .func (.func 146) #[] #[.pointer (some ⟨w1.heap.size + 1, 0, none⟩)], .int .i64 (u : Int), .int .i64 z, .slice (some ⟨w.heap.size + 1 + 1 + 1, 0, none⟩) n n, .int .i64 (u : Int), .int .i64 (P : Int), .int .i64 (2 * (L : Int) + 1), .int .i64 R, .pointer (some ⟨w.heap.size, 1, none⟩), .int .i64 L, .int .i64 (R - L), .pointer (some ⟨w.heap.size + 1 + 1 + 1, u, none⟩), undef, undef, undef, undef], defers := [] } W.drew := by
      rw [hG]
      refine wpAnyIn_ready (rs := [9]) (by kernel_rfl) (by simp) ?_
      refine AllReadyIn.cons rfl (fun K hK => ?_) ?_
      · go_simp
        refine hK _ _ ?_
        rw [← hG]
        exact H0123456789_
      exact AllReadyIn.nil
    have H01234567_ : G 2 #[true, true, true, true, true, true, true, true, false, false] { tmps := #[.agg #[.int .i64 n, .int .i64 L], .int .i64 p, .pointer (some ⟨w.heap.size, 0, none⟩), .pointer (some ⟨w.heap.size + 1, 0, none⟩), .slice none 0 0, .pointer (some ⟨w.heap.size + 1 + 1, 0, none⟩), .pointer (some ⟨w1.heap.size, 0, none⟩), .int .i64 (u : Int), .pointer (some ⟨w.heap.size, 1, none⟩), .int .i64 L, .int .i64 (2 * (L : Int)), .int .i64 (2 * (L : Int) + 1), .pointer (some ⟨w.heap.size, 0, none⟩), .int .i64 n, .slice (some ⟨w.heap.size + 1 + 1 + 1, 0, none⟩) n n, .slice (some ⟨w.heap.size + 1 + 1 + 1, 0, none⟩) n n, .func (.func 146) #[] #[.pointer (some ⟨w1.heap.size + 1, 0, none⟩)], .int .i64 (u : Int), .int .i64 z, .slice (some ⟨w.heap.size + 1 + 1 + 1, 0, none⟩) n n, .int .i64 (u : Int), .int .i64 (P : Int), .int .i64 (2 * (L : Int) + 1), .int .i64 R, .pointer (some ⟨w.heap.size, 1, none⟩), .int .i64 L, .int .i64 (R - L), undef, undef, undef, undef, undef], defers := [] } W.drew := by
      rw [hG]
      refine wpAnyIn_ready (rs := [8]) (by kernel_rfl) (by simp) ?_
      refine AllReadyIn.cons rfl (fun K hK => ?_) ?_
      · go_simp
        refine hK _ _ ?_
        rw [← hG]
        exact H012345678_
      exact AllReadyIn.nil
    have H0123456_ : G 3 #[true, true, true, true, true, true, true, false, false, false] { tmps := #[.agg #[.int .i64 n, .int .i64 L], .int .i64 p, .pointer (some ⟨w.heap.size, 0, none⟩), .pointer (some ⟨w.heap.size + 1, 0, none⟩), .slice none 0 0, .pointer (some ⟨w.heap.size + 1 + 1, 0, none⟩), .pointer (some ⟨w1.heap.size, 0, none⟩), .int .i64 (u : Int), .pointer (some ⟨w.heap.size, 1, none⟩), .int .i64 L, .int .i64 (2 * (L : Int)), .int .i64 (2 * (L : Int) + 1), .pointer (some ⟨w.heap.size, 0, none⟩), .int .i64 n, .slice (some ⟨w.heap.size + 1 + 1 + 1, 0, none⟩) n n, .slice (some ⟨w.heap.size + 1 + 1 + 1, 0, none⟩) n n, .func (.func 146) #[] #[.pointer (some ⟨w1.heap.size + 1, 0, none⟩)], .int .i64 (u : Int), .int .i64 z, .slice (some ⟨w.heap.size + 1 + 1 + 1, 0, none⟩) n n, .int .i64 (u : Int), .int .i64 (P : Int), .int .i64 (2 * (L : Int) + 1), .int .i64 R, .pointer (some ⟨w.heap.size, 1, none⟩), .int .i64 L, undef, undef, undef, undef, undef, undef], defers := [] } W.drew := by
      rw [hG]
      refine wpAnyIn_ready (rs := [7]) (by kernel_rfl) (by simp) ?_
      refine AllReadyIn.cons rfl (fun K hK => ?_) ?_
      · go_simp
        refine hK _ _ ?_
        rw [← hG]
        exact H01234567_
      exact AllReadyIn.nil
    have H0234567_ : G 3 #[true, false, true, true, true, true, true, true, false, false] { tmps := #[.agg #[.int .i64 n, .int .i64 L], .int .i64 p, .pointer (some ⟨w.heap.size, 0, none⟩), .pointer (some ⟨w.heap.size + 1, 0, none⟩), .slice none 0 0, .pointer (some ⟨w.heap.size + 1 + 1, 0, none⟩), .pointer (some ⟨w1.heap.size, 0, none⟩), .int .i64 (u : Int), .pointer (some ⟨w.heap.size, 1, none⟩), .int .i64 L, .int .i64 (2 * (L : Int)), .int .i64 (2 * (L : Int) + 1), .pointer (some ⟨w.heap.size, 0, none⟩), .int .i64 n, .slice (some ⟨w.heap.size + 1 + 1 + 1, 0, none⟩) n n, .slice (some ⟨w.heap.size + 1 + 1 + 1, 0, none⟩) n n, .func (.func 146) #[] #[.pointer (some ⟨w1.heap.size + 1, 0, none⟩)], .int .i64 (u : Int), .int .i64 z, .slice (some ⟨w.heap.size + 1 + 1 + 1, 0, none⟩) n n, undef, .int .i64 (P : Int), .int .i64 (2 * (L : Int) + 1), .int .i64 R, .pointer (some ⟨w.heap.size, 1, none⟩), .int .i64 L, .int .i64 (R - L), undef, undef, undef, undef, undef], defers := [] } W.drew := by
      rw [hG]
      refine wpAnyIn_ready (rs := [1]) (by kernel_rfl) (by simp) ?_
      refine AllReadyIn.cons rfl (fun K hK => ?_) ?_
      · go_simp
        refine hK _ _ ?_
        rw [← hG]
        exact H01234567_
      exact AllReadyIn.nil
    have H1234567_ : G 3 #[false, true, true, true, true, true, true, true, false, false] { tmps := #[.agg #[.int .i64 n, .int .i64 L], .int .i64 p, .pointer (some ⟨w.heap.size, 0, none⟩), .pointer (some ⟨w.heap.size + 1, 0, none⟩), .slice none 0 0, .pointer (some ⟨w.heap.size + 1 + 1, 0, none⟩), .pointer (some ⟨w1.heap.size, 0, none⟩), .int .i64 (u : Int), .pointer (some ⟨w.heap.size, 1, none⟩), .int .i64 L, .int .i64 (2 * (L : Int)), .int .i64 (2 * (L : Int) + 1), .pointer (some ⟨w.heap.size, 0, none⟩), .int .i64 n, .slice (some ⟨w.heap.size + 1 + 1 + 1, 0, none⟩) n n, .slice (some ⟨w.heap.size + 1 + 1 + 1, 0, none⟩) n n, .func (.func 146) #[] #[.pointer (some ⟨w1.heap.size + 1, 0, none⟩)], .int .i64 (u : Int), .int .i64 z, undef, .int .i64 (u : Int), .int .i64 (P : Int), .int .i64 (2 * (L : Int) + 1), .int .i64 R, .pointer (some ⟨w.heap.size, 1, none⟩), .int .i64 L, .int .i64 (R - L), undef, undef, undef, undef, undef], defers := [] } W.drew := by
      rw [hG]
      refine wpAnyIn_ready (rs := [0]) (by kernel_rfl) (by simp) ?_
      refine AllReadyIn.cons rfl (fun K hK => ?_) ?_
      · go_simp
        refine hK _ _ ?_
        rw [← hG]
        exact H01234567_
      exact AllReadyIn.nil
    have H012345_ : G 4 #[true, true, true, true, true, true, false, false, false, false] { tmps := #[.agg #[.int .i64 n, .int .i64 L], .int .i64 p, .pointer (some ⟨w.heap.size, 0, none⟩), .pointer (some ⟨w.heap.size + 1, 0, none⟩), .slice none 0 0, .pointer (some ⟨w.heap.size + 1 + 1, 0, none⟩), .pointer (some ⟨w1.heap.size, 0, none⟩), .int .i64 (u : Int), .pointer (some ⟨w.heap.size, 1, none⟩), .int .i64 L, .int .i64 (2 * (L : Int)), .int .i64 (2 * (L : Int) + 1), .pointer (some ⟨w.heap.size, 0, none⟩), .int .i64 n, .slice (some ⟨w.heap.size + 1 + 1 + 1, 0, none⟩) n n, .slice (some ⟨w.heap.size + 1 + 1 + 1, 0, none⟩) n n, .func (.func 146) #[] #[.pointer (some ⟨w1.heap.size + 1, 0, none⟩)], .int .i64 (u : Int), .int .i64 z, .slice (some ⟨w.heap.size + 1 + 1 + 1, 0, none⟩) n n, .int .i64 (u : Int), .int .i64 (P : Int), .int .i64 (2 * (L : Int) + 1), .int .i64 R, .pointer (some ⟨w.heap.size, 1, none⟩), undef, undef, undef, undef, undef, undef, undef], defers := [] } W.drew := by
      rw [hG]
      refine wpAnyIn_ready (rs := [6]) (by kernel_rfl) (by simp) ?_
      refine AllReadyIn.cons rfl (fun K hK => ?_) ?_
      · go_simp
        refine hK _ _ ?_
        rw [← hG]
        exact H0123456_
      exact AllReadyIn.nil
    have H012356_ : G 4 #[true, true, true, true, false, true, true, false, false, false] { tmps := #[.agg #[.int .i64 n, .int .i64 L], .int .i64 p, .pointer (some ⟨w.heap.size, 0, none⟩), .pointer (some ⟨w.heap.size + 1, 0, none⟩), .slice none 0 0, .pointer (some ⟨w.heap.size + 1 + 1, 0, none⟩), .pointer (some ⟨w1.heap.size, 0, none⟩), .int .i64 (u : Int), .pointer (some ⟨w.heap.size, 1, none⟩), .int .i64 L, .int .i64 (2 * (L : Int)), .int .i64 (2 * (L : Int) + 1), .pointer (some ⟨w.heap.size, 0, none⟩), .int .i64 n, .slice (some ⟨w.heap.size + 1 + 1 + 1, 0, none⟩) n n, .slice (some ⟨w.heap.size + 1 + 1 + 1, 0, none⟩) n n, .func (.func 146) #[] #[.pointer (some ⟨w1.heap.size + 1, 0, none⟩)], .int .i64 (u : Int), .int .i64 z, .slice (some ⟨w.heap.size + 1 + 1 + 1, 0, none⟩) n n, .int .i64 (u : Int), .int .i64 (P : Int), .int .i64 (2 * (L : Int) + 1), undef, .pointer (some ⟨w.heap.size, 1, none⟩), .int .i64 L, undef, undef, undef, undef, undef, undef], defers := [] } W.drew := by
      rw [hG]
      refine wpAnyIn_ready (rs := [4]) (by kernel_rfl) (by simp) ?_
      refine AllReadyIn.cons rfl (fun K hK => ?_) ?_
      · go_simp
        refine hK _ _ ?_
        rw [← hG]
        exact H0123456_
      exact AllReadyIn.nil
    have H023456_ : G 4 #[true, false, true, true, true, true, true, false, false, false] { tmps := #[.agg #[.int .i64 n, .int .i64 L], .int .i64 p, .pointer (some ⟨w.heap.size, 0, none⟩), .pointer (some ⟨w.heap.size + 1, 0, none⟩), .slice none 0 0, .pointer (some ⟨w.heap.size + 1 + 1, 0, none⟩), .pointer (some ⟨w1.heap.size, 0, none⟩), .int .i64 (u : Int), .pointer (some ⟨w.heap.size, 1, none⟩), .int .i64 L, .int .i64 (2 * (L : Int)), .int .i64 (2 * (L : Int) + 1), .pointer (some ⟨w.heap.size, 0, none⟩), .int .i64 n, .slice (some ⟨w.heap.size + 1 + 1 + 1, 0, none⟩) n n, .slice (some ⟨w.heap.size + 1 + 1 + 1, 0, none⟩) n n, .func (.func 146) #[] #[.pointer (some ⟨w1.heap.size + 1, 0, none⟩)], .int .i64 (u : Int), .int .i64 z, .slice (some ⟨w.heap.size + 1 + 1 + 1, 0, none⟩) n n, undef, .int .i64 (P : Int), .int .i64 (2 * (L : Int) + 1), .int .i64 R, .pointer (some ⟨w.heap.size, 1, none⟩), .int .i64 L, undef, undef, undef, undef, undef, undef], defers := [] } W.drew := by
      rw [hG]
      refine wpAnyIn_ready (rs := [1, 7]) (by kernel_rfl) (by simp) ?_
      refine AllReadyIn.cons rfl (fun K hK => ?_) ?_
      · go_simp
        refine hK _ _ ?_
        rw [← hG]
        exact H0123456_
      refine AllReadyIn.cons rfl (fun K hK => ?_) ?_
      · go_simp
        refine hK _ _ ?_
        rw [← hG]
        exact H0234567_
      exact AllReadyIn.nil
    have H123456_ : G 4 #[false, true, true, true, true, true, true, false, false, false] { tmps := #[.agg #[.int .i64 n, .int .i64 L], .int .i64 p, .pointer (some ⟨w.heap.size, 0, none⟩), .pointer (some ⟨w.heap.size + 1, 0, none⟩), .slice none 0 0, .pointer (some ⟨w.heap.size + 1 + 1, 0, none⟩), .pointer (some ⟨w1.heap.size, 0, none⟩), .int .i64 (u : Int), .pointer (some ⟨w.heap.size, 1, none⟩), .int .i64 L, .int .i64 (2 * (L : Int)), .int .i64 (2 * (L : Int) + 1), .pointer (some ⟨w.heap.size, 0, none⟩), .int .i64 n, .slice (some ⟨w.heap.size + 1 + 1 + 1, 0, none⟩) n n, .slice (some ⟨w.heap.size + 1 + 1 + 1, 0, none⟩) n n, .func (.func 146) #[] #[.pointer (some ⟨w1.heap.size + 1, 0, none⟩)], .int .i64 (u : Int), .int .i64 z, undef, .int .i64 (u : Int), .int .i64 (P : Int), .int .i64 (2 * (L : Int) + 1), .int .i64 R, .pointer (some ⟨w.heap.size, 1, none⟩), .int .i64 L, undef, undef, undef, undef, undef, undef], defers := [] } W.drew := by
      rw [hG]
      refine wpAnyIn_ready (rs := [0, 7]) (by kernel_rfl) (by simp) ?_
      refine AllReadyIn.cons rfl (fun K hK => ?_) ?_
      · go_simp
        refine hK _ _ ?_
        rw [← hG]
        exact H0123456_
      refine AllReadyIn.cons rfl (fun K hK => ?_) ?_
      · go_simp
        refine hK _ _ ?_
        rw [← hG]
        exact H1234567_
      exact AllReadyIn.nil
    have H234567_ : G 4 #[false, false, true, true, true, true, true, true, false, false] { tmps := #[.agg #[.int .i64 n, .int .i64 L], .int .i64 p, .pointer (some ⟨w.heap.size, 0, none⟩), .pointer (some ⟨w.heap.size + 1, 0, none⟩), .slice none 0 0, .pointer (some ⟨w.heap.size + 1 + 1, 0, none⟩), .pointer (some ⟨w1.heap.size, 0, none⟩), .int .i64 (u : Int), .pointer (some ⟨w.heap.size, 1, none⟩), .int .i64 L, .int .i64 (2 * (L : Int)), .int .i64 (2 * (L : Int) + 1), .pointer (some ⟨w.heap.size, 0, none⟩), .int .i64 n, .slice (some ⟨w.heap.size + 1 + 1 + 1, 0, none⟩) n n, .slice (some ⟨w.heap.size + 1 + 1 + 1, 0, none⟩) n n, .func (.func 146) #[] #[.pointer (some ⟨w1.heap.size + 1, 0, none⟩)], .int .i64 (u : Int), .int .i64 z, undef, undef, .int .i64 (P : Int), .int .i64 (2 * (L : Int) + 1), .int .i64 R, .pointer (some ⟨w.heap.size, 1, none⟩), .int .i64 L, .int .i64 (R - L), undef, undef, undef, undef, undef], defers := [] } W.drew := by
      rw [hG]
      refine wpAnyIn_ready (rs := [0, 1]) (by kernel_rfl) (by simp) ?_
      refine AllReadyIn.cons rfl (fun K hK => ?_) ?_
      · go_simp
        refine hK _ _ ?_
        rw [← hG]
        exact H0234567_
      refine AllReadyIn.cons rfl (fun K hK => ?_) ?_
      · go_simp
        refine hK _ _ ?_
        rw [← hG]
        exact H1234567_
      exact AllReadyIn.nil
    have H01234_ : G 5 #[true, true, true, true, true, false, false, false, false, false] { tmps := #[.agg #[.int .i64 n, .int .i64 L], .int .i64 p, .pointer (some ⟨w.heap.size, 0, none⟩), .pointer (some ⟨w.heap.size + 1, 0, none⟩), .slice none 0 0, .pointer (some ⟨w.heap.size + 1 + 1, 0, none⟩), .pointer (some ⟨w1.heap.size, 0, none⟩), .int .i64 (u : Int), .pointer (some ⟨w.heap.size, 1, none⟩), .int .i64 L, .int .i64 (2 * (L : Int)), .int .i64 (2 * (L : Int) + 1), .pointer (some ⟨w.heap.size, 0, none⟩), .int .i64 n, .slice (some ⟨w.heap.size + 1 + 1 + 1, 0, none⟩) n n, .slice (some ⟨w.heap.size + 1 + 1 + 1, 0, none⟩) n n, .func (.func 146) #[] #[.pointer (some ⟨w1.heap.size + 1, 0, none⟩)], .int .i64 (u : Int), .int .i64 z, .slice (some ⟨w.heap.size + 1 + 1 + 1, 0, none⟩) n n, .int .i64 (u : Int), .int .i64 (P : Int), .int .i64 (2 * (L : Int) + 1), .int .i64 R, undef, undef, undef, undef, undef, undef, undef, undef], defers := [] } W.drew := by
      rw [hG]
      refine wpAnyIn_ready (rs := [5]) (by kernel_rfl) (by simp) ?_
      refine AllReadyIn.cons rfl (fun K hK => ?_) ?_
      · go_simp
        refine hK _ _ ?_
        rw [← hG]
        exact H012345_
      exact AllReadyIn.nil
    have H01235_ : G 5 #[true, true, true, true, false, true, false, false, false, false] { tmps := #[.agg #[.int .i64 n, .int .i64 L], .int .i64 p, .pointer (some ⟨w.heap.size, 0, none⟩), .pointer (some ⟨w.heap.size + 1, 0, none⟩), .slice none 0 0, .pointer (some ⟨w.heap.size + 1 + 1, 0, none⟩), .pointer (some ⟨w1.heap.size, 0, none⟩), .int .i64 (u : Int), .pointer (some ⟨w.heap.size, 1, none⟩), .int .i64 L, .int .i64 (2 * (L : Int)), .int .i64 (2 * (L : Int) + 1), .pointer (some ⟨w.heap.size, 0, none⟩), .int .i64 n, .slice (some ⟨w.heap.size + 1 + 1 + 1, 0, none⟩) n n, .slice (some ⟨w.heap.size + 1 + 1 + 1, 0, none⟩) n n, .func (.func 146) #[] #[.pointer (some ⟨w1.heap.size + 1, 0, none⟩)], .int .i64 (u : Int), .int .i64 z, .slice (some ⟨w.heap.size + 1 + 1 + 1, 0, none⟩) n n, .int .i64 (u : Int), .int .i64 (P : Int), .int .i64 (2 * (L : Int) + 1), undef, .pointer (some ⟨w.heap.size, 1, none⟩), undef, undef, undef, undef, undef, undef, undef], defers := [] } W.drew := by
      rw [hG]
      refine wpAnyIn_ready (rs := [4, 6]) (by kernel_rfl) (by simp) ?_
      refine AllReadyIn.cons rfl (fun K hK => ?_) ?_
      · go_simp
        refine hK _ _ ?_
        rw [← hG]
        exact H012345_
      refine AllReadyIn.cons rfl (fun K hK => ?_) ?_
      · go_simp
        refine hK _ _ ?_
        rw [← hG]
        exact H012356_
      exact AllReadyIn.nil
    have H01256_ : G 5 #[true, true, true, false, false, true, true, false, false, false] { tmps := #[.agg #[.int .i64 n, .int .i64 L], .int .i64 p, .pointer (some ⟨w.heap.size, 0, none⟩), .pointer (some ⟨w.heap.size + 1, 0, none⟩), .slice none 0 0, .pointer (some ⟨w.heap.size + 1 + 1, 0, none⟩), .pointer (some ⟨w1.heap.size, 0, none⟩), .int .i64 (u : Int), .pointer (some ⟨w.heap.size, 1, none⟩), .int .i64 L, .int .i64 (2 * (L : Int)), .int .i64 (2 * (L : Int) + 1), .pointer (some ⟨w.heap.size, 0, none⟩), .int .i64 n, .slice (some ⟨w.heap.size + 1 + 1 + 1, 0, none⟩) n n, .slice (some ⟨w.heap.size + 1 + 1 + 1, 0, none⟩) n n, .func (.func 146) #[] #[.pointer (some ⟨w1.heap.size + 1, 0, none⟩)], .int .i64 (u : Int), .int .i64 z, .slice (some ⟨w.heap.size + 1 + 1 + 1, 0, none⟩) n n, .int .i64 (u : Int), .int .i64 (P : Int), undef, undef, .pointer (some ⟨w.heap.size, 1, none⟩), .int .i64 L, undef, undef, undef, undef, undef, undef], defers := [] } W.drew := by
      rw [hG]
      refine wpAnyIn_ready (rs := [3]) (by kernel_rfl) (by simp) ?_
      refine AllReadyIn.cons rfl (fun K hK => ?_) ?_
      · go_simp
        refine hK _ _ ?_
        rw [← hG]
        exact H012356_
      exact AllReadyIn.nil
    have H01356_ : G 5 #[true, true, false, true, false, true, true, false, false, false] { tmps := #[.agg #[.int .i64 n, .int .i64 L], .int .i64 p, .pointer (some ⟨w.heap.size, 0, none⟩), .pointer (some ⟨w.heap.size + 1, 0, none⟩), .slice none 0 0, .pointer (some ⟨w.heap.size + 1 + 1, 0, none⟩), .pointer (some ⟨w1.heap.size, 0, none⟩), .int .i64 (u : Int), .pointer (some ⟨w.heap.size, 1, none⟩), .int .i64 L, .int .i64 (2 * (L : Int)), .int .i64 (2 * (L : Int) + 1), .pointer (some ⟨w.heap.size, 0, none⟩), .int .i64 n, .slice (some ⟨w.heap.size + 1 + 1 + 1, 0, none⟩) n n, .slice (some ⟨w.heap.size + 1 + 1 + 1, 0, none⟩) n n, .func (.func 146) #[] #[.pointer (some ⟨w1.heap.size + 1, 0, none⟩)], .int .i64 (u : Int), .int .i64 z, .slice (some ⟨w.heap.size + 1 + 1 + 1, 0, none⟩) n n, .int .i64 (u : Int), undef, .int .i64 (2 * (L : Int) + 1), undef, .pointer (some ⟨w.heap.size, 1, none⟩), .int .i64 L, undef, undef, undef, undef, undef, undef], defers := [] } W.drew := by
      rw [hG]
      refine wpAnyIn_ready (rs := [2]) (by kernel_rfl) (by simp) ?_
      refine AllReadyIn.cons rfl (fun K hK => ?_) ?_
      · go_simp
        refine hK _ _ ?_
        rw [← hG]
        exact H012356_
      exact AllReadyIn.nil
    have H02345_ : G 5 #[true, false, true, true, true, true, false, false, false, false] { tmps := #[.agg #[.int .i64 n, .int .i64 L], .int .i64 p, .pointer (some ⟨w.heap.size, 0, none⟩), .pointer (some ⟨w.heap.size + 1, 0, none⟩), .slice none 0 0, .pointer (some ⟨w.heap.size + 1 + 1, 0, none⟩), .pointer (some ⟨w1.heap.size, 0, none⟩), .int .i64 (u : Int), .pointer (some ⟨w.heap.size, 1, none⟩), .int .i64 L, .int .i64 (2 * (L : Int)), .int .i64 (2 * (L : Int) + 1), .pointer (some ⟨w.heap.size, 0, none⟩), .int .i64 n, .slice (some ⟨w.heap.size + 1 + 1 + 1, 0, none⟩) n n, .slice (some ⟨w.heap.size + 1 + 1 + 1, 0, none⟩) n n, .func (.func 146) #[] #[.pointer (some ⟨w1.heap.size + 1, 0, none⟩)], .int .i64 (u : Int), .int .i64 z, .slice (some ⟨w.heap.size + 1 + 1 + 1, 0, none⟩) n n, undef, .int .i64 (P : Int), .int .i64 (2 * (L : Int) + 1), .int .i64 R, .pointer (some ⟨w.heap.size, 1, none⟩), undef, undef, undef, undef, undef, undef, undef], defers := [] } W.drew := by
      rw [hG]
      refine wpAnyIn_ready (rs := [1, 6]) (by kernel_rfl) (by simp) ?_
      refine AllReadyIn.cons rfl (fun K hK => ?_) ?_
      · go_simp
        refine hK _ _ ?_
        rw [← hG]
        exact H012345_
      refine AllReadyIn.cons rfl (fun K hK => ?_) ?_
      · go_simp
        refine hK _ _ ?_
        rw [← hG]
        exact H023456_
      exact AllReadyIn.nil
    have H02356_ : G 5 #[true, false, true, true, false, true, true, false, false, false] { tmps := #[.agg #[.int .i64 n, .int .i64 L], .int .i64 p, .pointer (some ⟨w.heap.size, 0, none⟩), .pointer (some ⟨w.heap.size + 1, 0, none⟩), .slice none 0 0, .pointer (some ⟨w.heap.size + 1 + 1, 0, none⟩), .pointer (some ⟨w1.heap.size, 0, none⟩), .int .i64 (u : Int), .pointer (some ⟨w.heap.size, 1, none⟩), .int .i64 L, .int .i64 (2 * (L : Int)), .int .i64 (2 * (L : Int) + 1), .pointer (some ⟨w.heap.size, 0, none⟩), .int .i64 n, .slice (some ⟨w.heap.size + 1 + 1 + 1, 0, none⟩) n n, .slice (some ⟨w.heap.size + 1 + 1 + 1, 0, none⟩) n n, .func (.func 146) #[] #[.pointer (some ⟨w1.heap.size + 1, 0, none⟩)], .int .i64 (u : Int), .int .i64 z, .slice (some ⟨w.heap.size + 1 + 1 + 1, 0, none⟩) n n, undef, .int .i64 (P : Int), .int .i64 (2 * (L : Int) + 1), undef, .pointer (some ⟨w.heap.size, 1, none⟩), .int .i64 L, undef, undef, undef, undef, undef, undef], defers := [] } W.drew := by
      rw [hG]
      refine wpAnyIn_ready (rs := [1, 4]) (by kernel_rfl) (by simp) ?_
      refine AllReadyIn.cons rfl (fun K hK => ?_) ?_
      · go_simp
        refine hK _ _ ?_
        rw [← hG]
        exact H012356_
      refine AllReadyIn.cons rfl (fun K hK => ?_) ?_
      · go_simp
        refine hK _ _ ?_
        rw [← hG]
        exact H023456_
      exact AllReadyIn.nil
    have H12345_ : G 5 #[false, true, true, true, true, true, false, false, false, false] { tmps := #[.agg #[.int .i64 n, .int .i64 L], .int .i64 p, .pointer (some ⟨w.heap.size, 0, none⟩), .pointer (some ⟨w.heap.size + 1, 0, none⟩), .slice none 0 0, .pointer (some ⟨w.heap.size + 1 + 1, 0, none⟩), .pointer (some ⟨w1.heap.size, 0, none⟩), .int .i64 (u : Int), .pointer (some ⟨w.heap.size, 1, none⟩), .int .i64 L, .int .i64 (2 * (L : Int)), .int .i64 (2 * (L : Int) + 1), .pointer (some ⟨w.heap.size, 0, none⟩), .int .i64 n, .slice (some ⟨w.heap.size + 1 + 1 + 1, 0, none⟩) n n, .slice (some ⟨w.heap.size + 1 + 1 + 1, 0, none⟩) n n, .func (.func 146) #[] #[.pointer (some ⟨w1.heap.size + 1, 0, none⟩)], .int .i64 (u : Int), .int .i64 z, undef, .int .i64 (u : Int), .int .i64 (P : Int), .int .i64 (2 * (L : Int) + 1), .int .i64 R, .pointer (some ⟨w.heap.size, 1, none⟩), undef, undef, undef, undef, undef, undef, undef], defers := [] } W.drew := by
      rw [hG]
      refine wpAnyIn_ready (rs := [0, 6]) (by kernel_rfl) (by simp) ?_
      refine AllReadyIn.cons rfl (fun K hK => ?_) ?_
      · go_simp
        refine hK _ _ ?_
        rw [← hG]
        exact H012345_
      refine AllReadyIn.cons rfl (fun K hK => ?_) ?_
      · go_simp
        refine hK _ _ ?_
        rw [← hG]
        exact H123456_
      exact AllReadyIn.nil
    have H12356_ : G 5 #[false, true, true, true, false, true, true, false, false, false] { tmps := #[.agg #[.int .i64 n, .int .i64 L], .int .i64 p, .pointer (some ⟨w.heap.size, 0, none⟩), .pointer (some ⟨w.heap.size + 1, 0, none⟩), .slice none 0 0, .pointer (some ⟨w.heap.size + 1 + 1, 0, none⟩), .pointer (some ⟨w1.heap.size, 0, none⟩), .int .i64 (u : Int), .pointer (some ⟨w.heap.size, 1, none⟩), .int .i64 L, .int .i64 (2 * (L : Int)), .int .i64 (2 * (L : Int) + 1), .pointer (some ⟨w.heap.size, 0, none⟩), .int .i64 n, .slice (some ⟨w.heap.size + 1 + 1 + 1, 0, none⟩) n n, .slice (some ⟨w.heap.size + 1 + 1 + 1, 0, none⟩) n n, .func (.func 146) #[] #[.pointer (some ⟨w1.heap.size + 1, 0, none⟩)], .int .i64 (u : Int), .int .i64 z, undef, .int .i64 (u : Int), .int .i64 (P : Int), .int .i64 (2 * (L : Int) + 1), undef, .pointer (some ⟨w.heap.size, 1, none⟩), .int .i64 L, undef, undef, undef, undef, undef, undef], defers := [] } W.drew := by
      rw [hG]
      refine wpAnyIn_ready (rs := [0, 4]) (by kernel_rfl) (by simp) ?_
      refine AllReadyIn.cons rfl (fun K hK => ?_) ?_
      · go_simp
        refine hK _ _ ?_
        rw [← hG]
        exact H012356_
      refine AllReadyIn.cons rfl (fun K hK => ?_) ?_
      · go_simp
        refine hK _ _ ?_
        rw [← hG]
        exact H123456_
      exact AllReadyIn.nil
    have H23456_ : G 5 #[false, false, true, true, true, true, true, false, false, false] { tmps := #[.agg #[.int .i64 n, .int .i64 L], .int .i64 p, .pointer (some ⟨w.heap.size, 0, none⟩), .pointer (some ⟨w.heap.size + 1, 0, none⟩), .slice none 0 0, .pointer (some ⟨w.heap.size + 1 + 1, 0, none⟩), .pointer (some ⟨w1.heap.size, 0, none⟩), .int .i64 (u : Int), .pointer (some ⟨w.heap.size, 1, none⟩), .int .i64 L, .int .i64 (2 * (L : Int)), .int .i64 (2 * (L : Int) + 1), .pointer (some ⟨w.heap.size, 0, none⟩), .int .i64 n, .slice (some ⟨w.heap.size + 1 + 1 + 1, 0, none⟩) n n, .slice (some ⟨w.heap.size + 1 + 1 + 1, 0, none⟩) n n, .func (.func 146) #[] #[.pointer (some ⟨w1.heap.size + 1, 0, none⟩)], .int .i64 (u : Int), .int .i64 z, undef, undef, .int .i64 (P : Int), .int .i64 (2 * (L : Int) + 1), .int .i64 R, .pointer (some ⟨w.heap.size, 1, none⟩), .int .i64 L, undef, undef, undef, undef, undef, undef], defers := [] } W.drew := by
      rw [hG]
      refine wpAnyIn_ready (rs := [0, 1, 7]) (by kernel_rfl) (by simp) ?_
      refine AllReadyIn.cons rfl (fun K hK => ?_) ?_
      · go_simp
        refine hK _ _ ?_
        rw [← hG]
        exact H023456_
      refine AllReadyIn.cons rfl (fun K hK => ?_) ?_
      · go_simp
        refine hK _ _ ?_
        rw [← hG]
        exact H123456_
      refine AllReadyIn.cons rfl (fun K hK => ?_) ?_
      · go_simp
        refine hK _ _ ?_
        rw [← hG]
        exact H234567_
      exact AllReadyIn.nil
    have H0123_ : G 6 #[true, true, true, true, false, false, false, false, false, false] { tmps := #[.agg #[.int .i64 n, .int .i64 L], .int .i64 p, .pointer (some ⟨w.heap.size, 0, none⟩), .pointer (some ⟨w.heap.size + 1, 0, none⟩), .slice none 0 0, .pointer (some ⟨w.heap.size + 1 + 1, 0, none⟩), .pointer (some ⟨w1.heap.size, 0, none⟩), .int .i64 (u : Int), .pointer (some ⟨w.heap.size, 1, none⟩), .int .i64 L, .int .i64 (2 * (L : Int)), .int .i64 (2 * (L : Int) + 1), .pointer (some ⟨w.heap.size, 0, none⟩), .int .i64 n, .slice (some ⟨w.heap.size + 1 + 1 + 1, 0, none⟩) n n, .slice (some ⟨w.heap.size + 1 + 1 + 1, 0, none⟩) n n, .func (.func 146) #[] #[.pointer (some ⟨w1.heap.size + 1, 0, none⟩)], .int .i64 (u : Int), .int .i64 z, .slice (some ⟨w.heap.size + 1 + 1 + 1, 0, none⟩) n n, .int .i64 (u : Int), .int .i64 (P : Int), .int .i64 (2 * (L : Int) + 1), undef, undef, undef, undef, undef, undef, undef, undef, undef], defers := [] } W.drew := by
      rw [hG]
      refine wpAnyIn_ready (rs := [4, 5]) (by kernel_rfl) (by simp) ?_
      refine AllReadyIn.cons rfl (fun K hK => ?_) ?_
      · go_simp
        refine hK _ _ ?_
        rw [← hG]
        exact H01234_
      refine AllReadyIn.cons rfl (fun K hK => ?_) ?_
      · go_simp
        refine hK _ _ ?_
        rw [← hG]
        exact H01235_
      exact AllReadyIn.nil
    have H0125_ : G 6 #[true, true, true, false, false, true, false, false, false, false] { tmps := #[.agg #[.int .i64 n, .int .i64 L], .int .i64 p, .pointer (some ⟨w.heap.size, 0, none⟩), .pointer (some ⟨w.heap.size + 1, 0, none⟩), .slice none 0 0, .pointer (some ⟨w.heap.size + 1 + 1, 0, none⟩), .pointer (some ⟨w1.heap.size, 0, none⟩), .int .i64 (u : Int), .pointer (some ⟨w.heap.size, 1, none⟩), .int .i64 L, .int .i64 (2 * (L : Int)), .int .i64 (2 * (L : Int) + 1), .pointer (some ⟨w.heap.size, 0, none⟩), .int .i64 n, .slice (some ⟨w.heap.size + 1 + 1 + 1, 0, none⟩) n n, .slice (some ⟨w.heap.size + 1 + 1 + 1, 0, none⟩) n n, .func (.func 146) #[] #[.pointer (some ⟨w1.heap.size + 1, 0, none⟩)], .int .i64 (u : Int), .int .i64 z, .slice (some ⟨w.heap.size + 1 + 1 + 1, 0, none⟩) n n, .int .i64 (u : Int), .int .i64 (P : Int), undef, undef, .pointer (some ⟨w.heap.size, 1, none⟩), undef, undef, undef, undef, undef, undef, undef], defers := [] } W.drew := by
      rw [hG]
      refine wpAnyIn_ready (rs := [3, 6]) (by kernel_rfl) (by simp) ?_
      refine AllReadyIn.cons rfl (fun K hK => ?_) ?_
      · go_simp
        refine hK _ _ ?_
        rw [← hG]
        exact H01235_
      refine AllReadyIn.cons rfl (fun K hK => ?_) ?_
      · go_simp
        refine hK _ _ ?_
        rw [← hG]
        exact H01256_
      exact AllReadyIn.nil
    have H0135_ : G 6 #[true, true, false, true, false, true, false, false, false, false] { tmps := #[.agg #[.int .i64 n, .int .i64 L], .int .i64 p, .pointer (some ⟨w.heap.size, 0, none⟩), .pointer (some ⟨w.heap.size + 1, 0, none⟩), .slice none 0 0, .pointer (some ⟨w.heap.size + 1 + 1, 0, none⟩), .pointer (some ⟨w1.heap.size, 0, none⟩), .int .i64 (u : Int), .pointer (some ⟨w.heap.size, 1, none⟩), .int .i64 L, .int .i64 (2 * (L : Int)), .int .i64 (2 * (L : Int) + 1), .pointer (some ⟨w.heap.size, 0, none⟩), .int .i64 n, .slice (some ⟨w.heap.size + 1 + 1 + 1, 0, none⟩) n n, .slice (some ⟨w.heap.size + 1 + 1 + 1, 0, none⟩) n n, .func (.func 146) #[] #[.pointer (some ⟨w1.heap.size + 1, 0, none⟩)], .int .i64 (u : Int), .int .i64 z, .slice (some ⟨w.heap.size + 1 + 1 + 1, 0, none⟩) n n, .int .i64 (u : Int), undef, .int .i64 (2 * (L : Int) + 1), undef, .pointer (some ⟨w.heap.size, 1, none⟩), undef, undef, undef, undef, undef, undef, undef], defers := [] } W.drew := by
      rw [hG]
      refine wpAnyIn_ready (rs := [2, 6]) (by kernel_rfl) (by simp) ?_
      refine AllReadyIn.cons rfl (fun K hK => ?_) ?_
      · go_simp
        refine hK _ _ ?_
        rw [← hG]
        exact H01235_
      refine AllReadyIn.cons rfl (fun K hK => ?_) ?_
      · go_simp
        refine hK _ _ ?_
        rw [← hG]
        exact H01356_
      exact AllReadyIn.nil
    have H0156_ : G 6 #[true, true, false, false, false, true, true, false, false, false] { tmps := #[.agg #[.int .i64 n, .int .i64 L], .int .i64 p, .pointer (some ⟨w.heap.size, 0, none⟩), .pointer (some ⟨w.heap.size + 1, 0, none⟩), .slice none 0 0, .pointer (some ⟨w.heap.size + 1 + 1, 0, none⟩), .pointer (some ⟨w1.heap.size, 0, none⟩), .int .i64 (u : Int), .pointer (some ⟨w.heap.size, 1, none⟩), .int .i64 L, .int .i64 (2 * (L : Int)), .int .i64 (2 * (L : Int) + 1), .pointer (some ⟨w.heap.size, 0, none⟩), .int .i64 n, .slice (some ⟨w.heap.size + 1 + 1 + 1, 0, none⟩) n n, .slice (some ⟨w.heap.size + 1 + 1 + 1, 0, none⟩) n n, .func (.func 146) #[] #[.pointer (some ⟨w1.heap.size + 1, 0, none⟩)], .int .i64 (u : Int), .int .i64 z, .slice (some ⟨w.heap.size + 1 + 1 + 1, 0, none⟩) n n, .int .i64 (u : Int), undef, undef, undef, .pointer (some ⟨w.heap.size, 1, none⟩), .int .i64 L, undef, undef, undef, undef, undef, undef], defers := [] } W.drew := by
      rw [hG]
      refine wpAnyIn_ready (rs := [2, 3]) (by kernel_rfl) (by simp) ?_
      refine AllReadyIn.cons rfl (fun K hK => ?_) ?_
      · go_simp
        refine hK _ _ ?_
        rw [← hG]
        exact H01256_
      refine AllReadyIn.cons rfl (fun K hK => ?_) ?_
      · go_simp
        refine hK _ _ ?_
        rw [← hG]
        exact H01356_
      exact AllReadyIn.nil
    have H0234_ : G 6 #[true, false, true, true, true, false, false, false, false, false] { tmps := #[.agg #[.int .i64 n, .int .i64 L], .int .i64 p, .pointer (some ⟨w.heap.size, 0, none⟩), .pointer (some ⟨w.heap.size + 1, 0, none⟩), .slice none 0 0, .pointer (some ⟨w.heap.size + 1 + 1, 0, none⟩), .pointer (some ⟨w1.heap.size, 0, none⟩), .int .i64 (u : Int), .pointer (some ⟨w.heap.size, 1, none⟩), .int .i64 L, .int .i64 (2 * (L : Int)), .int .i64 (2 * (L : Int) + 1), .pointer (some ⟨w.heap.size, 0, none⟩), .int .i64 n, .slice (some ⟨w.heap.size + 1 + 1 + 1, 0, none⟩) n n, .slice (some ⟨w.heap.size + 1 + 1 + 1, 0, none⟩) n n, .func (.func 146) #[] #[.pointer (some ⟨w1.heap.size + 1, 0, none⟩)], .int .i64 (u : Int), .int .i64 z, .slice (some ⟨w.heap.size + 1 + 1 + 1, 0, none⟩) n n, undef, .int .i64 (P : Int), .int .i64 (2 * (L : Int) + 1), .int .i64 R, undef, undef, undef, undef, undef, undef, undef, undef], defers := [] } W.drew := by
      rw [hG]
      refine wpAnyIn_ready (rs := [1, 5]) (by kernel_rfl) (by simp) ?_
      refine AllReadyIn.cons rfl (fun K hK => ?_) ?_
      · go_simp
        refine hK _ _ ?_
        rw [← hG]
        exact H01234_
      refine AllReadyIn.cons rfl (fun K hK => ?_) ?_
      · go_simp
        refine hK _ _ ?_
        rw [← hG]
        exact H02345_
      exact AllReadyIn.nil
    have H0235_ : G 6 #[true, false, true, true, false, true, false, false, false, false] { tmps := #[.agg #[.int .i64 n, .int .i64 L], .int .i64 p, .pointer (some ⟨w.heap.size, 0, none⟩), .pointer (some ⟨w.heap.size + 1, 0, none⟩), .slice none 0 0, .pointer (some ⟨w.heap.size + 1 + 1, 0, none⟩), .pointer (some ⟨w1.heap.size, 0, none⟩), .int .i64 (u : Int), .pointer (some ⟨w.heap.size, 1, none⟩), .int .i64 L, .int .i64 (2 * (L : Int)), .int .i64 (2 * (L : Int) + 1), .pointer (some ⟨w.heap.size, 0, none⟩), .int .i64 n, .slice (some ⟨w.heap.size + 1 + 1 + 1, 0, none⟩) n n, .slice (some ⟨w.heap.size + 1 + 1 + 1, 0, none⟩) n n, .func (.func 146) #[] #[.pointer (some ⟨w1.heap.size + 1, 0, none⟩)], .int .i64 (u : Int), .int .i64 z, .slice (some ⟨w.heap.size + 1 + 1 + 1, 0, none⟩) n n, undef, .int .i64 (P : Int), .int .i64 (2 * (L : Int) + 1), undef, .pointer (some ⟨w.heap.size, 1, none⟩), undef, undef, undef, undef, undef, undef, undef], defers := [] } W.drew := by
      rw [hG]
      refine wpAnyIn_ready (rs := [1, 4, 6]) (by kernel_rfl) (by simp) ?_
      refine AllReadyIn.cons rfl (fun K hK => ?_) ?_
      · go_simp
        refine hK _ _ ?_
        rw [← hG]
        exact H01235_
      refine AllReadyIn.cons rfl (fun K hK => ?_) ?_
      · go_simp
        refine hK _ _ ?_
        rw [← hG]
        exact H02345_
      refine AllReadyIn.cons rfl (fun K hK => ?_) ?_
      · go_simp
        refine hK _ _ ?_
        rw [← hG]
        exact H02356_
      exact AllReadyIn.nil
    have H0256_ : G 6 #[true, false, true, false, false, true, true, false, false, false] { tmps := #[.agg #[.int .i64 n, .int .i64 L], .int .i64 p, .pointer (some ⟨w.heap.size, 0, none⟩), .pointer (some ⟨w.heap.size + 1, 0, none⟩), .slice none 0 0, .pointer (some ⟨w.heap.size + 1 + 1, 0, none⟩), .pointer (some ⟨w1.heap.size, 0, none⟩), .int .i64 (u : Int), .pointer (some ⟨w.heap.size, 1, none⟩), .int .i64 L, .int .i64 (2 * (L : Int)), .int .i64 (2 * (L : Int) + 1), .pointer (some ⟨w.heap.size, 0, none⟩), .int .i64 n, .slice (some ⟨w.heap.size + 1 + 1 + 1, 0, none⟩) n n, .slice (some ⟨w.heap.size + 1 + 1 + 1, 0, none⟩) n n, .func (.func 146) #[] #[.pointer (some ⟨w1.heap.size + 1, 0, none⟩)], .int .i64 (u : Int), .int .i64 z, .slice (some ⟨w.heap.size + 1 + 1 + 1, 0, none⟩) n n, undef, .int .i64 (P : Int), undef, undef, .pointer (some ⟨w.heap.size, 1, none⟩), .int .i64 L, undef, undef, undef, undef, undef, undef], defers := [] } W.drew := by
      rw [hG]
      refine wpAnyIn_ready (rs := [1, 3]) (by kernel_rfl) (by simp) ?_
      refine AllReadyIn.cons rfl (fun K hK => ?_) ?_
      · go_simp
        refine hK _ _ ?_
        rw [← hG]
        exact H01256_
      refine AllReadyIn.cons rfl (fun K hK => ?_) ?_
      · go_simp
        refine hK _ _ ?_
        rw [← hG]
        exact H02356_
      exact AllReadyIn.nil
    have H0356_ : G 6 #[true, false, false, true, false, true, true, false, false, false] { tmps := #[.agg #[.int .i64 n, .int .i64 L], .int .i64 p, .pointer (some ⟨w.heap.size, 0, none⟩), .pointer (some ⟨w.heap.size + 1, 0, none⟩), .slice none 0 0, .pointer (some ⟨w.heap.size + 1 + 1, 0, none⟩), .pointer (some ⟨w1.heap.size, 0, none⟩), .int .i64 (u : Int), .pointer (some ⟨w.heap.size, 1, none⟩), .int .i64 L, .int .i64 (2 * (L : Int)), .int .i64 (2 * (L : Int) + 1), .pointer (some ⟨w.heap.size, 0, none⟩), .int .i64 n, .slice (some ⟨w.heap.size + 1 + 1 + 1, 0, none⟩) n n, .slice (some ⟨w.heap.size + 1 + 1 + 1, 0, none⟩) n n, .func (.func 146) #[] #[.pointer (some ⟨w1.heap.size + 1, 0, none⟩)], .int .i64 (u : Int), .int .i64 z, .slice (some ⟨w.heap.size + 1 + 1 + 1, 0, none⟩) n n, undef, undef, .int .i64 (2 * (L : Int) + 1), undef, .pointer (some ⟨w.heap.size, 1, none⟩), .int .i64 L, undef, undef, undef, undef, undef, undef], defers := [] } W.drew := by
      rw [hG]
      refine wpAnyIn_ready (rs := [1, 2]) (by kernel_rfl) (by simp) ?_
      refine AllReadyIn.cons rfl (fun K hK => ?_) ?_
      · go_simp
        refine hK _ _ ?_
        rw [← hG]
        exact H01356_
      refine AllReadyIn.cons rfl (fun K hK => ?_) ?_
      · go_simp
        refine hK _ _ ?_
        rw [← hG]
        exact H02356_
      exact AllReadyIn.nil
    have H1234_ : G 6 #[false, true, true, true, true, false, false, false, false, false] { tmps := #[.agg #[.int .i64 n, .int .i64 L], .int .i64 p, .pointer (some ⟨w.heap.size, 0, none⟩), .pointer (some ⟨w.heap.size + 1, 0, none⟩), .slice none 0 0, .pointer (some ⟨w.heap.size + 1 + 1, 0, none⟩), .pointer (some ⟨w1.heap.size, 0, none⟩), .int .i64 (u : Int), .pointer (some ⟨w.heap.size, 1, none⟩), .int .i64 L, .int .i64 (2 * (L : Int)), .int .i64 (2 * (L : Int) + 1), .pointer (some ⟨w.heap.size, 0, none⟩), .int .i64 n, .slice (some ⟨w.heap.size + 1 + 1 + 1, 0, none⟩) n n, .slice (some ⟨w.heap.size + 1 + 1 + 1, 0, none⟩) n n, .func (.func 146) #[] #[.pointer (some ⟨w1.heap.size + 1, 0, none⟩)], .int .i64 (u : Int), .int .i64 z, undef, .int .i64 (u : Int), .int .i64 (P : Int), .int .i64 (2 * (L : Int) + 1), .int .i64 R, undef, undef, undef, undef, undef, undef, undef, undef], defers := [] } W.drew := by
      rw [hG]
      refine wpAnyIn_ready (rs := [0, 5]) (by kernel_rfl) (by simp) ?_
      refine AllReadyIn.cons rfl (fun K hK => ?_) ?_
      · go_simp
        refine hK _ _ ?_
        rw [← hG]
        exact H01234_
      refine AllReadyIn.cons rfl (fun K hK => ?_) ?_
      · go_simp
        refine hK _ _ ?_
        rw [← hG]
        exact H12345_
      exact AllReadyIn.nil
    have H1235_ : G 6 #[false, true, true, true, false, true, false, false, false, false] { tmps := #[.agg #[.int .i64 n, .int .i64 L], .int .i64 p, .pointer (some ⟨w.heap.size, 0, none⟩), .pointer (some ⟨w.heap.size + 1, 0, none⟩), .slice none 0 0, .pointer (some ⟨w.heap.size + 1 + 1, 0, none⟩), .pointer (some ⟨w1.heap.size, 0, none⟩), .int .i64 (u : Int), .pointer (some ⟨w.heap.size, 1, none⟩), .int .i64 L, .int .i64 (2 * (L : Int)), .int .i64 (2 * (L : Int) + 1), .pointer (some ⟨w.heap.size, 0, none⟩), .int .i64 n, .slice (some ⟨w.heap.size + 1 + 1 + 1, 0, none⟩) n n, .slice (some ⟨w.heap.size + 1 + 1 + 1, 0, none⟩) n n, .func (.func 146) #[] #[.pointer (some ⟨w1.heap.size + 1, 0, none⟩)], .int .i64 (u : Int), .int .i64 z, undef, .int .i64 (u : Int), .int .i64 (P : Int), .int .i64 (2 * (L : Int) + 1), undef, .pointer (some ⟨w.heap.size, 1, none⟩), undef, undef, undef, undef, undef, undef, undef], defers := [] } W.drew := by
      rw [hG]
      refine wpAnyIn_ready (rs := [0, 4, 6]) (by kernel_rfl) (by simp) ?_
      refine AllReadyIn.cons rfl (fun K hK => ?_) ?_
      · go_simp
        refine hK _ _ ?_
        rw [← hG]
        exact H01235_
      refine AllReadyIn.cons rfl (fun K hK => ?_) ?_
      · go_simp
        refine hK _ _ ?_
        rw [← hG]
        exact H12345_
      refine AllReadyIn.cons rfl (fun K hK => ?_) ?_
      · go_simp
        refine hK _ _ ?_
        rw [← hG]
        exact H12356_
      exact AllReadyIn.nil
    have H1256_ : G 6 #[false, true, true, false, false, true, true, false, false, false] { tmps := #[.agg #[.int .i64 n, .int .i64 L], .int .i64 p, .pointer (some ⟨w.heap.size, 0, none⟩), .pointer (some ⟨w.heap.size + 1, 0, none⟩), .slice none 0 0, .pointer (some ⟨w.heap.size + 1 + 1, 0, none⟩), .pointer (some ⟨w1.heap.size, 0, none⟩), .int .i64 (u : Int), .pointer (some ⟨w.heap.size, 1, none⟩), .int .i64 L, .int .i64 (2 * (L : Int)), .int .i64 (2 * (L : Int) + 1), .pointer (some ⟨w.heap.size, 0, none⟩), .int .i64 n, .slice (some ⟨w.heap.size + 1 + 1 + 1, 0, none⟩) n n, .slice (some ⟨w.heap.size + 1 + 1 + 1, 0, none⟩) n n, .func (.func 146) #[] #[.pointer (some ⟨w1.heap.size + 1, 0, none⟩)], .int .i64 (u : Int), .int .i64 z, undef, .int .i64 (u : Int), .int .i64 (P : Int), undef, undef, .pointer (some ⟨w.heap.size, 1, none⟩), .int .i64 L, undef, undef, undef, undef, undef, undef], defers := [] } W.drew := by
      rw [hG]
      refine wpAnyIn_ready (rs := [0, 3]) (by kernel_rfl) (by simp) ?_
      refine AllReadyIn.cons rfl (fun K hK => ?_) ?_
      · go_simp
        refine hK _ _ ?_
        rw [← hG]
        exact H01256_
      refine AllReadyIn.cons rfl (fun K hK => ?_) ?_
      · go_simp
        refine hK _ _ ?_
        rw [← hG]
        exact H12356_
      exact AllReadyIn.nil
    have H1356_ : G 6 #[false, true, false, true, false, true, true, false, false, false] { tmps := #[.agg #[.int .i64 n, .int .i64 L], .int .i64 p, .pointer (some ⟨w.heap.size, 0, none⟩), .pointer (some ⟨w.heap.size + 1, 0, none⟩), .slice none 0 0, .pointer (some ⟨w.heap.size + 1 + 1, 0, none⟩), .pointer (some ⟨w1.heap.size, 0, none⟩), .int .i64 (u : Int), .pointer (some ⟨w.heap.size, 1, none⟩), .int .i64 L, .int .i64 (2 * (L : Int)), .int .i64 (2 * (L : Int) + 1), .pointer (some ⟨w.heap.size, 0, none⟩), .int .i64 n, .slice (some ⟨w.heap.size + 1 + 1 + 1, 0, none⟩) n n, .slice (some ⟨w.heap.size + 1 + 1 + 1, 0, none⟩) n n, .func (.func 146) #[] #[.pointer (some ⟨w1.heap.size + 1, 0, none⟩)], .int .i64 (u : Int), .int .i64 z, undef, .int .i64 (u : Int), undef, .int .i64 (2 * (L : Int) + 1), undef, .pointer (some ⟨w.heap.size, 1, none⟩), .int .i64 L, undef, undef, undef, undef, undef, undef], defers := [] } W.drew := by
      rw [hG]
      refine wpAnyIn_ready (rs := [0, 2]) (by kernel_rfl) (by simp) ?_
      refine AllReadyIn.cons rfl (fun K hK => ?_) ?_
      · go_simp
        refine hK _ _ ?_
        rw [← hG]
        exact H01356_
      refine AllReadyIn.cons rfl (fun K hK => ?_) ?_
      · go_simp
        refine hK _ _ ?_
        rw [← hG]
        exact H12356_
      exact AllReadyIn.nil
    have H2345_ : G 6 #[false, false, true, true, true, true, false, false, false, false] { tmps := #[.agg #[.int .i64 n, .int .i64 L], .int .i64 p, .pointer (some ⟨w.heap.size, 0, none⟩), .pointer (some ⟨w.heap.size + 1, 0, none⟩), .slice none 0 0, .pointer (some ⟨w.heap.size + 1 + 1, 0, none⟩), .pointer (some ⟨w1.heap.size, 0, none⟩), .int .i64 (u : Int), .pointer (some ⟨w.heap.size, 1, none⟩), .int .i64 L, .int .i64 (2 * (L : Int)), .int .i64 (2 * (L : Int) + 1), .pointer (some ⟨w.heap.size, 0, none⟩), .int .i64 n, .slice (some ⟨w.heap.size + 1 + 1 + 1, 0, none⟩) n n, .slice (some ⟨w.heap.size + 1 + 1 + 1, 0, none⟩) n n, .func (.func 146) #[] #[.pointer (some ⟨w1.heap.size + 1, 0, none⟩)], .int .i64 (u : Int), .int .i64 z, undef, undef, .int .i64 (P : Int), .int .i64 (2 * (L : Int) + 1), .int .i64 R, .pointer (some ⟨w.heap.size, 1, none⟩), undef, undef, undef, undef, undef, undef, undef], defers := [] } W.drew := by
      rw [hG]
      refine wpAnyIn_ready (rs := [0, 1, 6]) (by kernel_rfl) (by simp) ?_
      refine AllReadyIn.cons rfl (fun K hK => ?_) ?_
      · go_simp
        refine hK _ _ ?_
        rw [← hG]
        exact H02345_
      refine AllReadyIn.cons rfl (fun K hK => ?_) ?_
      · go_simp
        refine hK _ _ ?_
        rw [← hG]
        exact H12345_
      refine AllReadyIn.cons rfl (fun K hK => ?_) ?_
      · go_simp
        refine hK _ _ ?_
        rw [← hG]
        exact H23456_
      exact AllReadyIn.nil
    have H2356_ : G 6 #[false, false, true, true, false, true, true, false, false, false] { tmps := #[.agg #[.int .i64 n, .int .i64 L], .int .i64 p, .pointer (some ⟨w.heap.size, 0, none⟩), .pointer (some ⟨w.heap.size + 1, 0, none⟩), .slice none 0 0, .pointer (some ⟨w.heap.size + 1 + 1, 0, none⟩), .pointer (some ⟨w1.heap.size, 0, none⟩), .int .i64 (u : Int), .pointer (some ⟨w.heap.size, 1, none⟩), .int .i64 L, .int .i64 (2 * (L : Int)), .int .i64 (2 * (L : Int) + 1), .pointer (some ⟨w.heap.size, 0, none⟩), .int .i64 n, .slice (some ⟨w.heap.size + 1 + 1 + 1, 0, none⟩) n n, .slice (some ⟨w.heap.size + 1 + 1 + 1, 0, none⟩) n n, .func (.func 146) #[] #[.pointer (some ⟨w1.heap.size + 1, 0, none⟩)], .int .i64 (u : Int), .int .i64 z, undef, undef, .int .i64 (P : Int), .int .i64 (2 * (L : Int) + 1), undef, .pointer (some ⟨w.heap.size, 1, none⟩), .int .i64 L, undef, undef, undef, undef, undef, undef], defers := [] } W.drew := by
      rw [hG]
      refine wpAnyIn_ready (rs := [0, 1, 4]) (by kernel_rfl) (by simp) ?_
      refine AllReadyIn.cons rfl (fun K hK => ?_) ?_
      · go_simp
        refine hK _ _ ?_
        rw [← hG]
        exact H02356_
      refine AllReadyIn.cons rfl (fun K hK => ?_) ?_
      · go_simp
        refine hK _ _ ?_
        rw [← hG]
        exact H12356_
      refine AllReadyIn.cons rfl (fun K hK => ?_) ?_
      · go_simp
        refine hK _ _ ?_
        rw [← hG]
        exact H23456_
      exact AllReadyIn.nil
    have H012_ : G 7 #[true, true, true, false, false, false, false, false, false, false] { tmps := #[.agg #[.int .i64 n, .int .i64 L], .int .i64 p, .pointer (some ⟨w.heap.size, 0, none⟩), .pointer (some ⟨w.heap.size + 1, 0, none⟩), .slice none 0 0, .pointer (some ⟨w.heap.size + 1 + 1, 0, none⟩), .pointer (some ⟨w1.heap.size, 0, none⟩), .int .i64 (u : Int), .pointer (some ⟨w.heap.size, 1, none⟩), .int .i64 L, .int .i64 (2 * (L : Int)), .int .i64 (2 * (L : Int) + 1), .pointer (some ⟨w.heap.size, 0, none⟩), .int .i64 n, .slice (some ⟨w.heap.size + 1 + 1 + 1, 0, none⟩) n n, .slice (some ⟨w.heap.size + 1 + 1 + 1, 0, none⟩) n n, .func (.func 146) #[] #[.pointer (some ⟨w1.heap.size + 1, 0, none⟩)], .int .i64 (u : Int), .int .i64 z, .slice (some ⟨w.heap.size + 1 + 1 + 1, 0, none⟩) n n, .int .i64 (u : Int), .int .i64 (P : Int), undef, undef, undef, undef, undef, undef, undef, undef, undef, undef], defers := [] } W.drew := by
      rw [hG]
      refine wpAnyIn_ready (rs := [3, 5]) (by kernel_rfl) (by simp) ?_
      refine AllReadyIn.cons rfl (fun K hK => ?_) ?_
      · go_simp
        refine hK _ _ ?_
        rw [← hG]
        exact H0123_
      refine AllReadyIn.cons rfl (fun K hK => ?_) ?_
      · go_simp
        refine hK _ _ ?_
        rw [← hG]
        exact H0125_
      exact AllReadyIn.nil
    have H013_ : G 7 #[true, true, false, true, false, false, false, false, false, false] { tmps := #[.agg #[.int .i64 n, .int .i64 L], .int .i64 p, .pointer (some ⟨w.heap.size, 0, none⟩), .pointer (some ⟨w.heap.size + 1, 0, none⟩), .slice none 0 0, .pointer (some ⟨w.heap.size + 1 + 1, 0, none⟩), .pointer (some ⟨w1.heap.size, 0, none⟩), .int .i64 (u : Int), .pointer (some ⟨w.heap.size, 1, none⟩), .int .i64 L, .int .i64 (2 * (L : Int)), .int .i64 (2 * (L : Int) + 1), .pointer (some ⟨w.heap.size, 0, none⟩), .int .i64 n, .slice (some ⟨w.heap.size + 1 + 1 + 1, 0, none⟩) n n, .slice (some ⟨w.heap.size + 1 + 1 + 1, 0, none⟩) n n, .func (.func 146) #[] #[.pointer (some ⟨w1.heap.size + 1, 0, none⟩)], .int .i64 (u : Int), .int .i64 z, .slice (some ⟨w.heap.size + 1 + 1 + 1, 0, none⟩) n n, .int .i64 (u : Int), undef, .int .i64 (2 * (L : Int) + 1), undef, undef, undef, undef, undef, undef, undef, undef, undef], defers := [] } W.drew := by
      rw [hG]
      refine wpAnyIn_ready (rs := [2, 5]) (by kernel_rfl) (by simp) ?_
      refine AllReadyIn.cons rfl (fun K hK => ?_) ?_
      · go_simp
        refine hK _ _ ?_
        rw [← hG]
        exact H0123_
      refine AllReadyIn.cons rfl (fun K hK => ?_) ?_
      · go_simp
        refine hK _ _ ?_
        rw [← hG]
        exact H0135_
      exact AllReadyIn.nil
    have H015_ : G 7 #[true, true, false, false, false, true, false, false, false, false] { tmps := #[.agg #[.int .i64 n, .int .i64 L], .int .i64 p, .pointer (some ⟨w.heap.size, 0, none⟩), .pointer (some ⟨w.heap.size + 1, 0, none⟩), .slice none 0 0, .pointer (some ⟨w.heap.size + 1 + 1, 0, none⟩), .pointer (some ⟨w1.heap.size, 0, none⟩), .int .i64 (u : Int), .pointer (some ⟨w.heap.size, 1, none⟩), .int .i64 L, .int .i64 (2 * (L : Int)), .int .i64 (2 * (L : Int) + 1), .pointer (some ⟨w.heap.size, 0, none⟩), .int .i64 n, .slice (some ⟨w.heap.size + 1 + 1 + 1, 0, none⟩) n n, .slice (some ⟨w.heap.size + 1 + 1 + 1, 0, none⟩) n n, .func (.func 146) #[] #[.pointer (some ⟨w1.heap.size + 1, 0, none⟩)], .int .i64 (u : Int), .int .i64 z, .slice (some ⟨w.heap.size + 1 + 1 + 1, 0, none⟩) n n, .int .i64 (u : Int), undef, undef, undef, .pointer (some ⟨w.heap.size, 1, none⟩), undef, undef, undef, undef, undef, undef, undef], defers := [] } W.drew := by
      rw [hG]
      refine wpAnyIn_ready (rs := [2, 3, 6]) (by kernel_rfl) (by simp) ?_
      refine AllReadyIn.cons rfl (fun K hK => ?_) ?_
      · go_simp
        refine hK _ _ ?_
        rw [← hG]
        exact H0125_
      refine AllReadyIn.cons rfl (fun K hK => ?_) ?_
      · go_simp
        refine hK _ _ ?_
        rw [← hG]
        exact H0135_
      refine AllReadyIn.cons rfl (fun K hK => ?_) ?_
      · go_simp
        refine hK _ _ ?_
        rw [← hG]
        exact H0156_
      exact AllReadyIn.nil
    have H023_ : G 7 #[true, false, true, true, false, false, false, false, false, false] { tmps := #[.agg #[.int .i64 n, .int .i64 L], .int .i64 p, .pointer (some ⟨w.heap.size, 0, none⟩), .pointer (some ⟨w.heap.size + 1, 0, none⟩), .slice none 0 0, .pointer (some ⟨w.heap.size + 1 + 1, 0, none⟩), .pointer (some ⟨w1.heap.size, 0, none⟩), .int .i64 (u : Int), .pointer (some ⟨w.heap.size, 1, none⟩), .int .i64 L, .int .i64 (2 * (L : Int)), .int .i64 (2 * (L : Int) + 1), .pointer (some ⟨w.heap.size, 0, none⟩), .int .i64 n, .slice (some ⟨w.heap.size + 1 + 1 + 1, 0, none⟩) n n, .slice (some ⟨w.heap.size + 1 + 1 + 1, 0, none⟩) n n, .func (.func 146) #[] #[.pointer (some ⟨w1.heap.size + 1, 0, none⟩)], .int .i64 (u : Int), .int .i64 z, .slice (some ⟨w.heap.size + 1 + 1 + 1, 0, none⟩) n n, undef, .int .i64 (P : Int), .int .i64 (2 * (L : Int) + 1), undef, undef, undef, undef, undef, undef, undef, undef, undef], defers := [] } W.drew := by
      rw [hG]
      refine wpAnyIn_ready (rs := [1, 4, 5]) (by kernel_rfl) (by simp) ?_
      refine AllReadyIn.cons rfl (fun K hK => ?_) ?_
      · go_simp
        refine hK _ _ ?_
        rw [← hG]
        exact H0123_
      refine AllReadyIn.cons rfl (fun K hK => ?_) ?_
      · go_simp
        refine hK _ _ ?_
        rw [← hG]
        exact H0234_
      refine AllReadyIn.cons rfl (fun K hK => ?_) ?_
      · go_simp
        refine hK _ _ ?_
        rw [← hG]
        exact H0235_
      exact AllReadyIn.nil
    have H025_ : G 7 #[true, false, true, false, false, true, false, false, false, false] { tmps := #[.agg #[.int .i64 n, .int .i64 L], .int .i64 p, .pointer (some ⟨w.heap.size, 0, none⟩), .pointer (some ⟨w.heap.size + 1, 0, none⟩), .slice none 0 0, .pointer (some ⟨w.heap.size + 1 + 1, 0, none⟩), .pointer (some ⟨w1.heap.size, 0, none⟩), .int .i64 (u : Int), .pointer (some ⟨w.heap.size, 1, none⟩), .int .i64 L, .int .i64 (2 * (L : Int)), .int .i64 (2 * (L : Int) + 1), .pointer (some ⟨w.heap.size, 0, none⟩), .int .i64 n, .slice (some ⟨w.heap.size + 1 + 1 + 1, 0, none⟩) n n, .slice (some ⟨w.heap.size + 1 + 1 + 1, 0, none⟩) n n, .func (.func 146) #[] #[.pointer (some ⟨w1.heap.size + 1, 0, none⟩)], .int .i64 (u : Int), .int .i64 z, .slice (some ⟨w.heap.size + 1 + 1 + 1, 0, none⟩) n n, undef, .int .i64 (P : Int), undef, undef, .pointer (some ⟨w.heap.size, 1, none⟩), undef, undef, undef, undef, undef, undef, undef], defers := [] } W.drew := by
      rw [hG]
      refine wpAnyIn_ready (rs := [1, 3, 6]) (by kernel_rfl) (by simp) ?_
      refine AllReadyIn.cons rfl (fun K hK => ?_) ?_
      · go_simp
        refine hK _ _ ?_
        rw [← hG]
        exact H0125_
      refine AllReadyIn.cons rfl (fun K hK => ?_) ?_
      · go_simp
        refine hK _ _ ?_
        rw [← hG]
        exact H0235_
      refine AllReadyIn.cons rfl (fun K hK => ?_) ?_
      · go_simp
        refine hK _ _ ?_
        rw [← hG]
        exact H0256_
      exact AllReadyIn.nil
    have H035_ : G 7 #[true, false, false, true, false, true, false, false, false, false] { tmps := #[.agg #[.int .i64 n, .int .i64 L], .int .i64 p, .pointer (some ⟨w.heap.size, 0, none⟩), .pointer (some ⟨w.heap.size + 1, 0, none⟩), .slice none 0 0, .pointer (some ⟨w.heap.size + 1 + 1, 0, none⟩), .pointer (some ⟨w1.heap.size, 0, none⟩), .int .i64 (u : Int), .pointer (some ⟨w.heap.size, 1, none⟩), .int .i64 L, .int .i64 (2 * (L : Int)), .int .i64 (2 * (L : Int) + 1), .pointer (some ⟨w.heap.size, 0, none⟩), .int .i64 n, .slice (some ⟨w.heap.size + 1 + 1 + 1, 0, none⟩) n n, .slice (some ⟨w.heap.size + 1 + 1 + 1, 0, none⟩) n n, .func (.func 146) #[] #[.pointer (some ⟨w1.heap.size + 1, 0, none⟩)], .int .i64 (u : Int), .int .i64 z, .slice (some ⟨w.heap.size + 1 + 1 + 1, 0, none⟩) n n, undef, undef, .int .i64 (2 * (L : Int) + 1), undef, .pointer (some ⟨w.heap.size, 1, none⟩), undef, undef, undef, undef, undef, undef, undef], defers := [] } W.drew := by
      rw [hG]
      refine wpAnyIn_ready (rs := [1, 2, 6]) (by kernel_rfl) (by simp) ?_
      refine AllReadyIn.cons rfl (fun K hK => ?_) ?_
      · go_simp
        refine hK _ _ ?_
        rw [← hG]
        exact H0135_
      refine AllReadyIn.cons rfl (fun K hK => ?_) ?_
      · go_simp
        refine hK _ _ ?_
        rw [← hG]
        exact H0235_
      refine AllReadyIn.cons rfl (fun K hK => ?_) ?_
      · go_simp
        refine hK _ _ ?_
        rw [← hG]
        exact H0356_
      exact AllReadyIn.nil
    have H056_ : G 7 #[true, false, false, false, false, true, true, false, false, false] { tmps := #[.agg #[.int .i64 n, .int .i64 L], .int .i64 p, .pointer (some ⟨w.heap.size, 0, none⟩), .pointer (some ⟨w.heap.size + 1, 0, none⟩), .slice none 0 0, .pointer (some ⟨w.heap.size + 1 + 1, 0, none⟩), .pointer (some ⟨w1.heap.size, 0, none⟩), .int .i64 (u : Int), .pointer (some ⟨w.heap.size, 1, none⟩), .int .i64 L, .int .i64 (2 * (L : Int)), .int .i64 (2 * (L : Int) + 1), .pointer (some ⟨w.heap.size, 0, none⟩), .int .i64 n, .slice (some ⟨w.heap.size + 1 + 1 + 1, 0, none⟩) n n, .slice (some ⟨w.heap.size + 1 + 1 + 1, 0, none⟩) n n, .func (.func 146) #[] #[.pointer (some ⟨w1.heap.size + 1, 0, none⟩)], .int .i64 (u : Int), .int .i64 z, .slice (some ⟨w.heap.size + 1 + 1 + 1, 0, none⟩) n n, undef, undef, undef, undef, .pointer (some ⟨w.heap.size, 1, none⟩), .int .i64 L, undef, undef, undef, undef, undef, undef], defers := [] } W.drew := by
      rw [hG]
      refine wpAnyIn_ready (rs := [1, 2, 3]) (by kernel_rfl) (by simp) ?_
      refine AllReadyIn.cons rfl (fun K hK => ?_) ?_
      · go_simp
        refine hK _ _ ?_
        rw [← hG]
        exact H0156_
      refine AllReadyIn.cons rfl (fun K hK => ?_) ?_
      · go_simp
        refine hK _ _ ?_
        rw [← hG]
        exact H0256_
      refine AllReadyIn.cons rfl (fun K hK => ?_) ?_
      · go_simp
        refine hK _ _ ?_
        rw [← hG]
        exact H0356_
      exact AllReadyIn.nil
    have H123_ : G 7 #[false, true, true, true, false, false, false, false, false, false] { tmps := #[.agg #[.int .i64 n, .int .i64 L], .int .i64 p, .pointer (some ⟨w.heap.size, 0, none⟩), .pointer (some ⟨w.heap.size + 1, 0, none⟩), .slice none 0 0, .pointer (some ⟨w.heap.size + 1 + 1, 0, none⟩), .pointer (some ⟨w1.heap.size, 0, none⟩), .int .i64 (u : Int), .pointer (some ⟨w.heap.size, 1, none⟩), .int .i64 L, .int .i64 (2 * (L : Int)), .int .i64 (2 * (L : Int) + 1), .pointer (some ⟨w.heap.size, 0, none⟩), .int .i64 n, .slice (some ⟨w.heap.size + 1 + 1 + 1, 0, none⟩) n n, .slice (some ⟨w.heap.size + 1 + 1 + 1, 0, none⟩) n n, .func (.func 146) #[] #[.pointer (some ⟨w1.heap.size + 1, 0, none⟩)], .int .i64 (u : Int), .int .i64 z, undef, .int .i64 (u : Int), .int .i64 (P : Int), .int .i64 (2 * (L : Int) + 1), undef, undef, undef, undef, undef, undef, undef, undef, undef], defers := [] } W.drew := by
      rw [hG]
      refine wpAnyIn_ready (rs := [0, 4, 5]) (by kernel_rfl) (by simp) ?_
      refine AllReadyIn.cons rfl (fun K hK => ?_) ?_
      · go_simp
        refine hK _ _ ?_
        rw [← hG]
        exact H0123_
      refine AllReadyIn.cons rfl (fun K hK => ?_) ?_
      · go_simp
        refine hK _ _ ?_
        rw [← hG]
        exact H1234_
      refine AllReadyIn.cons rfl (fun K hK => ?_) ?_
      · go_simp
        refine hK _ _ ?_
        rw [← hG]
        exact H1235_
      exact AllReadyIn.nil
    have H125_ : G 7 #[false, true, true, false, false, true, false, false, false, false] { tmps := #[.agg #[.int .i64 n, .int .i64 L], .int .i64 p, .pointer (some ⟨w.heap.size, 0, none⟩), .pointer (some ⟨w.heap.size + 1, 0, none⟩), .slice none 0 0, .pointer (some ⟨w.heap.size + 1 + 1, 0, none⟩), .pointer (some ⟨w1.heap.size, 0, none⟩), .int .i64 (u : Int), .pointer (some ⟨w.heap.size, 1, none⟩), .int .i64 L, .int .i64 (2 * (L : Int)), .int .i64 (2 * (L : Int) + 1), .pointer (some ⟨w.heap.size, 0, none⟩), .int .i64 n, .slice (some ⟨w.heap.size + 1 + 1 + 1, 0, none⟩) n n, .slice (some ⟨w.heap.size + 1 + 1 + 1, 0, none⟩) n n, .func (.func 146) #[] #[.pointer (some ⟨w1.heap.size + 1, 0, none⟩)], .int .i64 (u : Int), .int .i64 z, undef, .int .i64 (u : Int), .int .i64 (P : Int), undef, undef, .pointer (some ⟨w.heap.size, 1, none⟩), undef, undef, undef, undef, undef, undef, undef], defers := [] } W.drew := by
      rw [hG]
      refine wpAnyIn_ready (rs := [0, 3, 6]) (by kernel_rfl) (by simp) ?_
      refine AllReadyIn.cons rfl (fun K hK => ?_) ?_
      · go_simp
        refine hK _ _ ?_
        rw [← hG]
        exact H0125_
      refine AllReadyIn.cons rfl (fun K hK => ?_) ?_
      · go_simp
        refine hK _ _ ?_
        rw [← hG]
        exact H1235_
      refine AllReadyIn.cons rfl (fun K hK => ?_) ?_
      · go_simp
        refine hK _ _ ?_
        rw [← hG]
        exact H1256_
      exact AllReadyIn.nil
    have H135_ : G 7 #[false, true, false, true, false, true, false, false, false, false] { tmps := #[.agg #[.int .i64 n, .int .i64 L], .int .i64 p, .pointer (some ⟨w.heap.size, 0, none⟩), .pointer (some ⟨w.heap.size + 1, 0, none⟩), .slice none 0 0, .pointer (some ⟨w.heap.size + 1 + 1, 0, none⟩), .pointer (some ⟨w1.heap.size, 0, none⟩), .int .i64 (u : Int), .pointer (some ⟨w.heap.size, 1, none⟩), .int .i64 L, .int .i64 (2 * (L : Int)), .int .i64 (2 * (L : Int) + 1), .pointer (some ⟨w.heap.size, 0, none⟩), .int .i64 n, .slice (some ⟨w.heap.size + 1 + 1 + 1, 0, none⟩) n n, .slice (some ⟨w.heap.size + 1 + 1 + 1, 0, none⟩) n n, .func (.func 146) #[] #[.pointer (some ⟨w1.heap.size + 1, 0, none⟩)], .int .i64 (u : Int), .int .i64 z, undef, .int .i64 (u : Int), undef, .int .i64 (2 * (L : Int) + 1), undef, .pointer (some ⟨w.heap.size, 1, none⟩), undef, undef, undef, undef, undef, undef, undef], defers := [] } W.drew := by
      rw [hG]
      refine wpAnyIn_ready (rs := [0, 2, 6]) (by kernel_rfl) (by simp) ?_
      refine AllReadyIn.cons rfl (fun K hK => ?_) ?_
      · go_simp
        refine hK _ _ ?_
        rw [← hG]
        exact H0135_
      refine AllReadyIn.cons rfl (fun K hK => ?_) ?_
      · go_simp
        refine hK _ _ ?_
        rw [← hG]
        exact H1235_
      refine AllReadyIn.cons rfl (fun K hK => ?_) ?_
      · go_simp
        refine hK _ _ ?_
        rw [← hG]
        exact H1356_
      exact AllReadyIn.nil
    have H156_ : G 7 #[false, true, false, false, false, true, true, false, false, false] { tmps := #[.agg #[.int .i64 n, .int .i64 L], .int .i64 p, .pointer (some ⟨w.heap.size, 0, none⟩), .pointer (some ⟨w.heap.size + 1, 0, none⟩), .slice none 0 0, .pointer (some ⟨w.heap.size + 1 + 1, 0, none⟩), .pointer (some ⟨w1.heap.size, 0, none⟩), .int .i64 (u : Int), .pointer (some ⟨w.heap.size, 1, none⟩), .int .i64 L, .int .i64 (2 * (L : Int)), .int .i64 (2 * (L : Int) + 1), .pointer (some ⟨w.heap.size, 0, none⟩), .int .i64 n, .slice (some ⟨w.heap.size + 1 + 1 + 1, 0, none⟩) n n, .slice (some ⟨w.heap.size + 1 + 1 + 1, 0, none⟩) n n, .func (.func 146) #[] #[.pointer (some ⟨w1.heap.size + 1, 0, none⟩)], .int .i64 (u : Int), .int .i64 z, undef, .int .i64 (u : Int), undef, undef, undef, .pointer (some ⟨w.heap.size, 1, none⟩), .int .i64 L, undef, undef, undef, undef, undef, undef], defers := [] } W.drew := by
      rw [hG]
      refine wpAnyIn_ready (rs := [0, 2, 3]) (by kernel_rfl) (by simp) ?_
      refine AllReadyIn.cons rfl (fun K hK => ?_) ?_
      · go_simp
        refine hK _ _ ?_
        rw [← hG]
        exact H0156_
      refine AllReadyIn.cons rfl (fun K hK => ?_) ?_
      · go_simp
        refine hK _ _ ?_
        rw [← hG]
        exact H1256_
      refine AllReadyIn.cons rfl (fun K hK => ?_) ?_
      · go_simp
        refine hK _ _ ?_
        rw [← hG]
        exact H1356_
      exact AllReadyIn.nil
    have H234_ : G 7 #[false, false, true, true, true, false, false, false, false, false] { tmps := #[.agg #[.int .i64 n, .int .i64 L], .int .i64 p, .pointer (some ⟨w.heap.size, 0, none⟩), .pointer (some ⟨w.heap.size + 1, 0, none⟩), .slice none 0 0, .pointer (some ⟨w.heap.size + 1 + 1, 0, none⟩), .pointer (some ⟨w1.heap.size, 0, none⟩), .int .i64 (u : Int), .pointer (some ⟨w.heap.size, 1, none⟩), .int .i64 L, .int .i64 (2 * (L : Int)), .int .i64 (2 * (L : Int) + 1), .pointer (some ⟨w.heap.size, 0, none⟩), .int .i64 n, .slice (some ⟨w.heap.size + 1 + 1 + 1, 0, none⟩) n n, .slice (some ⟨w.heap.size + 1 + 1 + 1, 0, none⟩) n n, .func (.func 146) #[] #[.pointer (some ⟨w1.heap.size + 1, 0, none⟩)], .int .i64 (u : Int), .int .i64 z, undef, undef, .int .i64 (P : Int), .int .i64 (2 * (L : Int) + 1), .int .i64 R, undef, undef, undef, undef, undef, undef, undef, undef], defers := [] } W.drew := by
      rw [hG]
      refine wpAnyIn_ready (rs := [0, 1, 5]) (by kernel_rfl) (by simp) ?_
      refine AllReadyIn.cons rfl (fun K hK => ?_) ?_
      · go_simp
        refine hK _ _ ?_
        rw [← hG]
        exact H0234_
      refine AllReadyIn.cons rfl (fun K hK => ?_) ?_
      · go_simp
        refine hK _ _ ?_
        rw [← hG]
        exact H1234_
      refine AllReadyIn.cons rfl (fun K hK => ?_) ?_
      · go_simp
        refine hK _ _ ?_
        rw [← hG]
        exact H2345_
      exact AllReadyIn.nil
    have H235_ : G 7 #[false, false, true, true, false, true, false, false, false, false] { tmps := #[.agg #[.int .i64 n, .int .i64 L], .int .i64 p, .pointer (some ⟨w.heap.size, 0, none⟩), .pointer (some ⟨w.heap.size + 1, 0, none⟩), .slice none 0 0, .pointer (some ⟨w.heap.size + 1 + 1, 0, none⟩), .pointer (some ⟨w1.heap.size, 0, none⟩), .int .i64 (u : Int), .pointer (some ⟨w.heap.size, 1, none⟩), .int .i64 L, .int .i64 (2 * (L : Int)), .int .i64 (2 * (L : Int) + 1), .pointer (some ⟨w.heap.size, 0, none⟩), .int .i64 n, .slice (some ⟨w.heap.size + 1 + 1 + 1, 0, none⟩) n n, .slice (some ⟨w.heap.size + 1 + 1 + 1, 0, none⟩) n n, .func (.func 146) #[] #[.pointer (some ⟨w1.heap.size + 1, 0, none⟩)], .int .i64 (u : Int), .int .i64 z, undef, undef, .int .i64 (P : Int), .int .i64 (2 * (L : Int) + 1), undef, .pointer (some ⟨w.heap.size, 1, none⟩), undef, undef, undef, undef, undef, undef, undef], defers := [] } W.drew := by
      rw [hG]
      refine wpAnyIn_ready (rs := [0, 1, 4, 6]) (by kernel_rfl) (by simp) ?_
      refine AllReadyIn.cons rfl (fun K hK => ?_) ?_
      · go_simp
        refine hK _ _ ?_
        rw [← hG]
        exact H0235_
      refine AllReadyIn.cons rfl (fun K hK => ?_) ?_
      · go_simp
        refine hK _ _ ?_
        rw [← hG]
        exact H1235_
      refine AllReadyIn.cons rfl (fun K hK => ?_) ?_
      · go_simp
        refine hK _ _ ?_
        rw [← hG]
        exact H2345_
      refine AllReadyIn.cons rfl (fun K hK => ?_) ?_
      · go_simp
        refine hK _ _ ?_
        rw [← hG]
        exact H2356_
      exact AllReadyIn.nil
    have H256_ : G 7 #[false, false, true, false, false, true, true, false, false, false] { tmps := #[.agg #[.int .i64 n, .int .i64 L], .int .i64 p, .pointer (some ⟨w.heap.size, 0, none⟩), .pointer (some ⟨w.heap.size + 1, 0, none⟩), .slice none 0 0, .pointer (some ⟨w.heap.size + 1 + 1, 0, none⟩), .pointer (some ⟨w1.heap.size, 0, none⟩), .int .i64 (u : Int), .pointer (some ⟨w.heap.size, 1, none⟩), .int .i64 L, .int .i64 (2 * (L : Int)), .int .i64 (2 * (L : Int) + 1), .pointer (some ⟨w.heap.size, 0, none⟩), .int .i64 n, .slice (some ⟨w.heap.size + 1 + 1 + 1, 0, none⟩) n n, .slice (some ⟨w.heap.size + 1 + 1 + 1, 0, none⟩) n n, .func (.func 146) #[] #[.pointer (some ⟨w1.heap.size + 1, 0, none⟩)], .int .i64 (u : Int), .int .i64 z, undef, undef, .int .i64 (P : Int), undef, undef, .pointer (some ⟨w.heap.size, 1, none⟩), .int .i64 L, undef, undef, undef, undef, undef, undef], defers := [] } W.drew := by
      rw [hG]
      refine wpAnyIn_ready (rs := [0, 1, 3]) (by kernel_rfl) (by simp) ?_
      refine AllReadyIn.cons rfl (fun K hK => ?_) ?_
      · go_simp
        refine hK _ _ ?_
        rw [← hG]
        exact H0256_
      refine AllReadyIn.cons rfl (fun K hK => ?_) ?_
      · go_simp
        refine hK _ _ ?_
        rw [← hG]
        exact H1256_
      refine AllReadyIn.cons rfl (fun K hK => ?_) ?_
      · go_simp
        refine hK _ _ ?_
        rw [← hG]
        exact H2356_
      exact AllReadyIn.nil
    have H356_ : G 7 #[false, false, false, true, false, true, true, false, false, false] { tmps := #[.agg #[.int .i64 n, .int .i64 L], .int .i64 p, .pointer (some ⟨w.heap.size, 0, none⟩), .pointer (some ⟨w.heap.size + 1, 0, none⟩), .slice none 0 0, .pointer (some ⟨w.heap.size + 1 + 1, 0, none⟩), .pointer (some ⟨w1.heap.size, 0, none⟩), .int .i64 (u : Int), .pointer (some ⟨w.heap.size, 1, none⟩), .int .i64 L, .int .i64 (2 * (L : Int)), .int .i64 (2 * (L : Int) + 1), .pointer (some ⟨w.heap.size, 0, none⟩), .int .i64 n, .slice (some ⟨w.heap.size + 1 + 1 + 1, 0, none⟩) n n, .slice (some ⟨w.heap.size + 1 + 1 + 1, 0, none⟩) n n, .func (.func 146) #[] #[.pointer (some ⟨w1.heap.size + 1, 0, none⟩)], .int .i64 (u : Int), .int .i64 z, undef, undef, undef, .int .i64 (2 * (L : Int) + 1), undef, .pointer (some ⟨w.heap.size, 1, none⟩), .int .i64 L, undef, undef, undef, undef, undef, undef], defers := [] } W.drew := by
      rw [hG]
      refine wpAnyIn_ready (rs := [0, 1, 2]) (by kernel_rfl) (by simp) ?_
      refine AllReadyIn.cons rfl (fun K hK => ?_) ?_
      · go_simp
        refine hK _ _ ?_
        rw [← hG]
        exact H0356_
      refine AllReadyIn.cons rfl (fun K hK => ?_) ?_
      · go_simp
        refine hK _ _ ?_
        rw [← hG]
        exact H1356_
      refine AllReadyIn.cons rfl (fun K hK => ?_) ?_
      · go_simp
        refine hK _ _ ?_
        rw [← hG]
        exact H2356_
      exact AllReadyIn.nil
    have H01_ : G 8 #[true, true, false, false, false, false, false, false, false, false] { tmps := #[.agg #[.int .i64 n, .int .i64 L], .int .i64 p, .pointer (some ⟨w.heap.size, 0, none⟩), .pointer (some ⟨w.heap.size + 1, 0, none⟩), .slice none 0 0, .pointer (some ⟨w.heap.size + 1 + 1, 0, none⟩), .pointer (some ⟨w1.heap.size, 0, none⟩), .int .i64 (u : Int), .pointer (some ⟨w.heap.size, 1, none⟩), .int .i64 L, .int .i64 (2 * (L : Int)), .int .i64 (2 * (L : Int) + 1), .pointer (some ⟨w.heap.size, 0, none⟩), .int .i64 n, .slice (some ⟨w.heap.size + 1 + 1 + 1, 0, none⟩) n n, .slice (some ⟨w.heap.size + 1 + 1 + 1, 0, none⟩) n n, .func (.func 146) #[] #[.pointer (some ⟨w1.heap.size + 1, 0, none⟩)], .int .i64 (u : Int), .int .i64 z, .slice (some ⟨w.heap.size + 1 + 1 + 1, 0, none⟩) n n, .int .i64 (u : Int), undef, undef, undef, undef, undef, undef, undef, undef, undef, undef, undef], defers := [] } W.drew := by
      rw [hG]
      refine wpAnyIn_ready (rs := [2, 3, 5]) (by kernel_rfl) (by simp) ?_
      refine AllReadyIn.cons rfl (fun K hK => ?_) ?_
      · go_simp
        refine hK _ _ ?_
        rw [← hG]
        exact H012_
      refine AllReadyIn.cons rfl (fun K hK => ?_) ?_
      · go_simp
        refine hK _ _ ?_
        rw [← hG]
        exact H013_
      refine AllReadyIn.cons rfl (fun K hK => ?_) ?_
      · go_simp
        refine hK _ _ ?_
        rw [← hG]
        exact H015_
      exact AllReadyIn.nil
    have H02_ : G 8 #[true, false, true, false, false, false, false, false, false, false] { tmps := #[.agg #[.int .i64 n, .int .i64 L], .int .i64 p, .pointer (some ⟨w.heap.size, 0, none⟩), .pointer (some ⟨w.heap.size + 1, 0, none⟩), .slice none 0 0, .pointer (some ⟨w.heap.size + 1 + 1, 0, none⟩), .pointer (some ⟨w1.heap.size, 0, none⟩), .int .i64 (u : Int), .pointer (some ⟨w.heap.size, 1, none⟩), .int .i64 L, .int .i64 (2 * (L : Int)), .int .i64 (2 * (L : Int) + 1), .pointer (some ⟨w.heap.size, 0, none⟩), .int .i64 n, .slice (some ⟨w.heap.size + 1 + 1 + 1, 0, none⟩) n n, .slice (some ⟨w.heap.size + 1 + 1 + 1, 0, none⟩) n n, .func (.func 146) #[] #[.pointer (some ⟨w1.heap.size + 1, 0, none⟩)], .int .i64 (u : Int), .int .i64 z, .slice (some ⟨w.heap.size + 1 + 1 + 1, 0, none⟩) n n, undef, .int .i64 (P : Int), undef, undef, undef, undef, undef, undef, undef, undef, undef, undef], defers := [] } W.drew := by
      rw [hG]
      refine wpAnyIn_ready (rs := [1, 3, 5]) (by kernel_rfl) (by simp) ?_
      refine AllReadyIn.cons rfl (fun K hK => ?_) ?_
      · go_simp
        refine hK _ _ ?_
        rw [← hG]
        exact H012_
      refine AllReadyIn.cons rfl (fun K hK => ?_) ?_
      · go_simp
        refine hK _ _ ?_
        rw [← hG]
        exact H023_
      refine AllReadyIn.cons rfl (fun K hK => ?_) ?_
      · go_simp
        refine hK _ _ ?_
        rw [← hG]
        exact H025_
      exact AllReadyIn.nil
    have H03_ : G 8 #[true, false, false, true, false, false, false, false, false, false] { tmps := #[.agg #[.int .i64 n, .int .i64 L], .int .i64 p, .pointer (some ⟨w.heap.size, 0, none⟩), .pointer (some ⟨w.heap.size + 1, 0, none⟩), .slice none 0 0, .pointer (some ⟨w.heap.size + 1 + 1, 0, none⟩), .pointer (some ⟨w1.heap.size, 0, none⟩), .int .i64 (u : Int), .pointer (some ⟨w.heap.size, 1, none⟩), .int .i64 L, .int .i64 (2 * (L : Int)), .int .i64 (2 * (L : Int) + 1), .pointer (some ⟨w.heap.size, 0, none⟩), .int .i64 n, .slice (some ⟨w.heap.size + 1 + 1 + 1, 0, none⟩) n n, .slice (some ⟨w.heap.size + 1 + 1 + 1, 0, none⟩) n n, .func (.func 146) #[] #[.pointer (some ⟨w1.heap.size + 1, 0, none⟩)], .int .i64 (u : Int), .int .i64 z, .slice (some ⟨w.heap.size + 1 + 1 + 1, 0, none⟩) n n, undef, undef, .int .i64 (2 * (L : Int) + 1), undef, undef, undef, undef, undef, undef, undef, undef, undef], defers := [] } W.drew := by
      rw [hG]
      refine wpAnyIn_ready (rs := [1, 2, 5]) (by kernel_rfl) (by simp) ?_
      refine AllReadyIn.cons rfl (fun K hK => ?_) ?_
      · go_simp
        refine hK _ _ ?_
        rw [← hG]
        exact H013_
      refine AllReadyIn.cons rfl (fun K hK => ?_) ?_
      · go_simp
        refine hK _ _ ?_
        rw [← hG]
        exact H023_
      refine AllReadyIn.cons rfl (fun K hK => ?_) ?_
      · go_simp
        refine hK _ _ ?_
        rw [← hG]
        exact H035_
      exact AllReadyIn.nil
    have H05_ : G 8 #[true, false, false, false, false, true, false, false, false, false] { tmps := #[.agg #[.int .i64 n, .int .i64 L], .int .i64 p, .pointer (some ⟨w.heap.size, 0, none⟩), .pointer (some ⟨w.heap.size + 1, 0, none⟩), .slice none 0 0, .pointer (some ⟨w.heap.size + 1 + 1, 0, none⟩), .pointer (some ⟨w1.heap.size, 0, none⟩), .int .i64 (u : Int), .pointer (some ⟨w.heap.size, 1, none⟩), .int .i64 L, .int .i64 (2 * (L : Int)), .int .i64 (2 * (L : Int) + 1), .pointer (some ⟨w.heap.size, 0, none⟩), .int .i64 n, .slice (some ⟨w.heap.size + 1 + 1 + 1, 0, none⟩) n n, .slice (some ⟨w.heap.size + 1 + 1 + 1, 0, none⟩) n n, .func (.func 146) #[] #[.pointer (some ⟨w1.heap.size + 1, 0, none⟩)], .int .i64 (u : Int), .int .i64 z, .slice (some ⟨w.heap.size + 1 + 1 + 1, 0, none⟩) n n, undef, undef, undef, undef, .pointer (some ⟨w.heap.size, 1, none⟩), undef, undef, undef, undef, undef, undef, undef], defers := [] } W.drew := by
      rw [hG]
      refine wpAnyIn_ready (rs := [1, 2, 3, 6]) (by kernel_rfl) (by simp) ?_
      refine AllReadyIn.cons rfl (fun K hK => ?_) ?_
      · go_simp
        refine hK _ _ ?_
        rw [← hG]
        exact H015_
      refine AllReadyIn.cons rfl (fun K hK => ?_) ?_
      · go_simp
        refine hK _ _ ?_
        rw [← hG]
        exact H025_
      refine AllReadyIn.cons rfl (fun K hK => ?_) ?_
      · go_simp
        refine hK _ _ ?_
        rw [← hG]
        exact H035_
      refine AllReadyIn.cons rfl (fun K hK => ?_) ?_
      · go_simp
        refine hK _ _ ?_
        rw [← hG]
        exact H056_
      exact AllReadyIn.nil
    have H12_ : G 8 #[false, true, true, false, false, false, false, false, false, false] { tmps := #[.agg #[.int .i64 n, .int .i64 L], .int .i64 p, .pointer (some ⟨w.heap.size, 0, none⟩), .pointer (some ⟨w.heap.size + 1, 0, none⟩), .slice none 0 0, .pointer (some ⟨w.heap.size + 1 + 1, 0, none⟩), .pointer (some ⟨w1.heap.size, 0, none⟩), .int .i64 (u : Int), .pointer (some ⟨w.heap.size, 1, none⟩), .int .i64 L, .int .i64 (2 * (L : Int)), .int .i64 (2 * (L : Int) + 1), .pointer (some ⟨w.heap.size, 0, none⟩), .int .i64 n, .slice (some ⟨w.heap.size + 1 + 1 + 1, 0, none⟩) n n, .slice (some ⟨w.heap.size + 1 + 1 + 1, 0, none⟩) n n, .func (.func 146) #[] #[.pointer (some ⟨w1.heap.size + 1, 0, none⟩)], .int .i64 (u : Int), .int .i64 z, undef, .int .i64 (u : Int), .int .i64 (P : Int), undef, undef, undef, undef, undef, undef, undef, undef, undef, undef], defers := [] } W.drew := by
      rw [hG]
      refine wpAnyIn_ready (rs := [0, 3, 5]) (by kernel_rfl) (by simp) ?_
      refine AllReadyIn.cons rfl (fun K hK => ?_) ?_
      · go_simp
        refine hK _ _ ?_
        rw [← hG]
        exact H012_
      refine AllReadyIn.cons rfl (fun K hK => ?_) ?_
      · go_simp
        refine hK _ _ ?_
        rw [← hG]
        exact H123_
      refine AllReadyIn.cons rfl (fun K hK => ?_) ?_
      · go_simp
        refine hK _ _ ?_
        rw [← hG]
        exact H125_
      exact AllReadyIn.nil
    have H13_ : G 8 #[false, true, false, true, false, false, false, false, false, false] { tmps := #[.agg #[.int .i64 n, .int .i64 L], .int .i64 p, .pointer (some ⟨w.heap.size, 0, none⟩), .pointer (some ⟨w.heap.size + 1, 0, none⟩), .slice none 0 0, .pointer (some ⟨w.heap.size + 1 + 1, 0, none⟩), .pointer (some ⟨w1.heap.size, 0, none⟩), .int .i64 (u : Int), .pointer (some ⟨w.heap.size, 1, none⟩), .int .i64 L, .int .i64 (2 * (L : Int)), .int .i64 (2 * (L : Int) + 1), .pointer (some ⟨w.heap.size, 0, none⟩), .int .i64 n, .slice (some ⟨w.heap.size + 1 + 1 + 1, 0, none⟩) n n, .slice (some ⟨w.heap.size + 1 + 1 + 1, 0, none⟩) n n, .func (.func 146) #[] #[.pointer (some ⟨w1.heap.size + 1, 0, none⟩)], .int .i64 (u : Int), .int .i64 z, undef, .int .i64 (u : Int), undef, .int .i64 (2 * (L : Int) + 1), undef, undef, undef, undef, undef, undef, undef, undef, undef], defers := [] } W.drew := by
      rw [hG]
      refine wpAnyIn_ready (rs := [0, 2, 5]) (by kernel_rfl) (by simp) ?_
      refine AllReadyIn.cons rfl (fun K hK => ?_) ?_
      · go_simp
        refine hK _ _ ?_
        rw [← hG]
        exact H013_
      refine AllReadyIn.cons rfl (fun K hK => ?_) ?_
      · go_simp
        refine hK _ _ ?_
        rw [← hG]
        exact H123_
      refine AllReadyIn.cons rfl (fun K hK => ?_) ?_
      · go_simp
        refine hK _ _ ?_
        rw [← hG]
        exact H135_
      exact AllReadyIn.nil
    have H15_ : G 8 #[false, true, false, false, false, true, false, false, false, false] { tmps := #[.agg #[.int .i64 n, .int .i64 L], .int .i64 p, .pointer (some ⟨w.heap.size, 0, none⟩), .pointer (some ⟨w.heap.size + 1, 0, none⟩), .slice none 0 0, .pointer (some ⟨w.heap.size + 1 + 1, 0, none⟩), .pointer (some ⟨w1.heap.size, 0, none⟩), .int .i64 (u : Int), .pointer (some ⟨w.heap.size, 1, none⟩), .int .i64 L, .int .i64 (2 * (L : Int)), .int .i64 (2 * (L : Int) + 1), .pointer (some ⟨w.heap.size, 0, none⟩), .int .i64 n, .slice (some ⟨w.heap.size + 1 + 1 + 1, 0, none⟩) n n, .slice (some ⟨w.heap.size + 1 + 1 + 1, 0, none⟩) n n, .func (.func 146) #[] #[.pointer (some ⟨w1.heap.size + 1, 0, none⟩)], .int .i64 (u : Int), .int .i64 z, undef, .int .i64 (u : Int), undef, undef, undef, .pointer (some ⟨w.heap.size, 1, none⟩), undef, undef, undef, undef, undef, undef, undef], defers := [] } W.drew := by
      rw [hG]
      refine wpAnyIn_ready (rs := [0, 2, 3, 6]) (by kernel_rfl) (by simp) ?_
      refine AllReadyIn.cons rfl (fun K hK => ?_) ?_
      · go_simp
        refine hK _ _ ?_
        rw [← hG]
        exact H015_
      refine AllReadyIn.cons rfl (fun K hK => ?_) ?_
      · go_simp
        refine hK _ _ ?_
        rw [← hG]
        exact H125_
      refine AllReadyIn.cons rfl (fun K hK => ?_) ?_
      · go_simp
        refine hK _ _ ?_
        rw [← hG]
        exact H135_
      refine AllReadyIn.cons rfl (fun K hK => ?_) ?_
      · go_simp
        refine hK _ _ ?_
        rw [← hG]
        exact H156_
      exact AllReadyIn.nil
    have H23_ : G 8 #[false, false, true, true, false, false, false, false, false, false] { tmps := #[.agg #[.int .i64 n, .int .i64 L], .int .i64 p, .pointer (some ⟨w.heap.size, 0, none⟩), .pointer (some ⟨w.heap.size + 1, 0, none⟩), .slice none 0 0, .pointer (some ⟨w.heap.size + 1 + 1, 0, none⟩), .pointer (some ⟨w1.heap.size, 0, none⟩), .int .i64 (u : Int), .pointer (some ⟨w.heap.size, 1, none⟩), .int .i64 L, .int .i64 (2 * (L : Int)), .int .i64 (2 * (L : Int) + 1), .pointer (some ⟨w.heap.size, 0, none⟩), .int .i64 n, .slice (some ⟨w.heap.size + 1 + 1 + 1, 0, none⟩) n n, .slice (some ⟨w.heap.size + 1 + 1 + 1, 0, none⟩) n n, .func (.func 146) #[] #[.pointer (some ⟨w1.heap.size + 1, 0, none⟩)], .int .i64 (u : Int), .int .i64 z, undef, undef, .int .i64 (P : Int), .int .i64 (2 * (L : Int) + 1), undef, undef, undef, undef, undef, undef, undef, undef, undef], defers := [] } W.drew := by
      rw [hG]
      refine wpAnyIn_ready (rs := [0, 1, 4, 5]) (by kernel_rfl) (by simp) ?_
      refine AllReadyIn.cons rfl (fun K hK => ?_) ?_
      · go_simp
        refine hK _ _ ?_
        rw [← hG]
        exact H023_
      refine AllReadyIn.cons rfl (fun K hK => ?_) ?_
      · go_simp
        refine hK _ _ ?_
        rw [← hG]
        exact H123_
      refine AllReadyIn.cons rfl (fun K hK => ?_) ?_
      · go_simp
        refine hK _ _ ?_
        rw [← hG]
        exact H234_
      refine AllReadyIn.cons rfl (fun K hK => ?_) ?_
      · go_simp
        refine hK _ _ ?_
        rw [← hG]
        exact H235_
      exact AllReadyIn.nil
    have H25_ : G 8 #[false, false, true, false, false, true, false, false, false, false] { tmps := #[.agg #[.int .i64 n, .int .i64 L], .int .i64 p, .pointer (some ⟨w.heap.size, 0, none⟩), .pointer (some ⟨w.heap.size + 1, 0, none⟩), .slice none 0 0, .pointer (some ⟨w.heap.size + 1 + 1, 0, none⟩), .pointer (some ⟨w1.heap.size, 0, none⟩), .int .i64 (u : Int), .pointer (some ⟨w.heap.size, 1, none⟩), .int .i64 L, .int .i64 (2 * (L : Int)), .int .i64 (2 * (L : Int) + 1), .pointer (some ⟨w.heap.size, 0, none⟩), .int .i64 n, .slice (some ⟨w.heap.size + 1 + 1 + 1, 0, none⟩) n n, .slice (some ⟨w.heap.size + 1 + 1 + 1, 0, none⟩) n n, .func (.func 146) #[] #[.pointer (some ⟨w1.heap.size + 1, 0, none⟩)], .int .i64 (u : Int), .int .i64 z, undef, undef, .int .i64 (P : Int), undef, undef, .pointer (some ⟨w.heap.size, 1, none⟩), undef, undef, undef, undef, undef, undef, undef], defers := [] } W.drew := by
      rw [hG]
      refine wpAnyIn_ready (rs := [0, 1, 3, 6]) (by kernel_rfl) (by simp) ?_
      refine AllReadyIn.cons rfl (fun K hK => ?_) ?_
      · go_simp
        refine hK _ _ ?_
        rw [← hG]
        exact H025_
      refine AllReadyIn.cons rfl (fun K hK => ?_) ?_
      · go_simp
        refine hK _ _ ?_
        rw [← hG]
        exact H125_
      refine AllReadyIn.cons rfl (fun K hK => ?_) ?_
      · go_simp
        refine hK _ _ ?_
        rw [← hG]
        exact H235_
      refine AllReadyIn.cons rfl (fun K hK => ?_) ?_
      · go_simp
        refine hK _ _ ?_
        rw [← hG]
        exact H256_
      exact AllReadyIn.nil
    have H35_ : G 8 #[false, false, false, true, false, true, false, false, false, false] { tmps := #[.agg #[.int .i64 n, .int .i64 L], .int .i64 p, .pointer (some ⟨w.heap.size, 0, none⟩), .pointer (some ⟨w.heap.size + 1, 0, none⟩), .slice none 0 0, .pointer (some ⟨w.heap.size + 1 + 1, 0, none⟩), .pointer (some ⟨w1.heap.size, 0, none⟩), .int .i64 (u : Int), .pointer (some ⟨w.heap.size, 1, none⟩), .int .i64 L, .int .i64 (2 * (L : Int)), .int .i64 (2 * (L : Int) + 1), .pointer (some ⟨w.heap.size, 0, none⟩), .int .i64 n, .slice (some ⟨w.heap.size + 1 + 1 + 1, 0, none⟩) n n, .slice (some ⟨w.heap.size + 1 + 1 + 1, 0, none⟩) n n, .func (.func 146) #[] #[.pointer (some ⟨w1.heap.size + 1, 0, none⟩)], .int .i64 (u : Int), .int .i64 z, undef, undef, undef, .int .i64 (2 * (L : Int) + 1), undef, .pointer (some ⟨w.heap.size, 1, none⟩), undef, undef, undef, undef, undef, undef, undef], defers := [] } W.drew := by
      rw [hG]
      refine wpAnyIn_ready (rs := [0, 1, 2, 6]) (by kernel_rfl) (by simp) ?_
      refine AllReadyIn.cons rfl (fun K hK => ?_) ?_
      · go_simp
        refine hK _ _ ?_
        rw [← hG]
        exact H035_
      refine AllReadyIn.cons rfl (fun K hK => ?_) ?_
      · go_simp
        refine hK _ _ ?_
        rw [← hG]
        exact H135_
      refine AllReadyIn.cons rfl (fun K hK => ?_) ?_
      · go_simp
        refine hK _ _ ?_
        rw [← hG]
        exact H235_
      refine AllReadyIn.cons rfl (fun K hK => ?_) ?_
      · go_simp
        refine hK _ _ ?_
        rw [← hG]
        exact H356_
      exact AllReadyIn.nil
    have H56_ : G 8 #[false, false, false, false, false, true, true, false, false, false] { tmps := #[.agg #[.int .i64 n, .int .i64 L], .int .i64 p, .pointer (some ⟨w.heap.size, 0, none⟩), .pointer (some ⟨w.heap.size + 1, 0, none⟩), .slice none 0 0, .pointer (some ⟨w.heap.size + 1 + 1, 0, none⟩), .pointer (some ⟨w1.heap.size, 0, none⟩), .int .i64 (u : Int), .pointer (some ⟨w.heap.size, 1, none⟩), .int .i64 L, .int .i64 (2 * (L : Int)), .int .i64 (2 * (L : Int) + 1), .pointer (some ⟨w.heap.size, 0, none⟩), .int .i64 n, .slice (some ⟨w.heap.size + 1 + 1 + 1, 0, none⟩) n n, .slice (some ⟨w.heap.size + 1 + 1 + 1, 0, none⟩) n n, .func (.func 146) #[] #[.pointer (some ⟨w1.heap.size + 1, 0, none⟩)], .int .i64 (u : Int), .int .i64 z, undef, undef, undef, undef, undef, .pointer (some ⟨w.heap.size, 1, none⟩), .int .i64 L, undef, undef, undef, undef, undef, undef], defers := [] } W.drew := by
      rw [hG]
      refine wpAnyIn_ready (rs := [0, 1, 2, 3]) (by kernel_rfl) (by simp) ?_
      refine AllReadyIn.cons rfl (fun K hK => ?_) ?_
      · go_simp
        refine hK _ _ ?_
        rw [← hG]
        exact H056_
      refine AllReadyIn.cons rfl (fun K hK => ?_) ?_
      · go_simp
        refine hK _ _ ?_
        rw [← hG]
        exact H156_
      refine AllReadyIn.cons rfl (fun K hK => ?_) ?_
      · go_simp
        refine hK _ _ ?_
        rw [← hG]
        exact H256_
      refine AllReadyIn.cons rfl (fun K hK => ?_) ?_
      · go_simp
        refine hK _ _ ?_
        rw [← hG]
        exact H356_
      exact AllReadyIn.nil
    have H0_ : G 9 #[true, false, false, false, false, false, false, false, false, false] { tmps := #[.agg #[.int .i64 n, .int .i64 L], .int .i64 p, .pointer (some ⟨w.heap.size, 0, none⟩), .pointer (some ⟨w.heap.size + 1, 0, none⟩), .slice none 0 0, .pointer (some ⟨w.heap.size + 1 + 1, 0, none⟩), .pointer (some ⟨w1.heap.size, 0, none⟩), .int .i64 (u : Int), .pointer (some ⟨w.heap.size, 1, none⟩), .int .i64 L, .int .i64 (2 * (L : Int)), .int .i64 (2 * (L : Int) + 1), .pointer (some ⟨w.heap.size, 0, none⟩), .int .i64 n, .slice (some ⟨w.heap.size + 1 + 1 + 1, 0, none⟩) n n, .slice (some ⟨w.heap.size + 1 + 1 + 1, 0, none⟩) n n, .func (.func 146) #[] #[.pointer (some ⟨w1.heap.size + 1, 0, none⟩)], .int .i64 (u : Int), .int .i64 z, .slice (some ⟨w.heap.size + 1 + 1 + 1, 0, none⟩) n n, undef, undef, undef, undef, undef, undef, undef, undef, undef, undef, undef, undef], defers := [] } W.drew := by
      rw [hG]
      refine wpAnyIn_ready (rs := [1, 2, 3, 5]) (by kernel_rfl) (by simp) ?_
      refine AllReadyIn.cons rfl (fun K hK => ?_) ?_
      · go_simp
        refine hK _ _ ?_
        rw [← hG]
        exact H01_
      refine AllReadyIn.cons rfl (fun K hK => ?_) ?_
      · go_simp
        refine hK _ _ ?_
        rw [← hG]
        exact H02_
      refine AllReadyIn.cons rfl (fun K hK => ?_) ?_
      · go_simp
        refine hK _ _ ?_
        rw [← hG]
        exact H03_
      refine AllReadyIn.cons rfl (fun K hK => ?_) ?_
      · go_simp
        refine hK _ _ ?_
        rw [← hG]
        exact H05_
      exact AllReadyIn.nil
    have H1_ : G 9 #[false, true, false, false, false, false, false, false, false, false] { tmps := #[.agg #[.int .i64 n, .int .i64 L], .int .i64 p, .pointer (some ⟨w.heap.size, 0, none⟩), .pointer (some ⟨w.heap.size + 1, 0, none⟩), .slice none 0 0, .pointer (some ⟨w.heap.size + 1 + 1, 0, none⟩), .pointer (some ⟨w1.heap.size, 0, none⟩), .int .i64 (u : Int), .pointer (some ⟨w.heap.size, 1, none⟩), .int .i64 L, .int .i64 (2 * (L : Int)), .int .i64 (2 * (L : Int) + 1), .pointer (some ⟨w.heap.size, 0, none⟩), .int .i64 n, .slice (some ⟨w.heap.size + 1 + 1 + 1, 0, none⟩) n n, .slice (some ⟨w.heap.size + 1 + 1 + 1, 0, none⟩) n n, .func (.func 146) #[] #[.pointer (some ⟨w1.heap.size + 1, 0, none⟩)], .int .i64 (u : Int), .int .i64 z, undef, .int .i64 (u : Int), undef, undef, undef, undef, undef, undef, undef, undef, undef, undef, undef], defers := [] } W.drew := by
      rw [hG]
      refine wpAnyIn_ready (rs := [0, 2, 3, 5]) (by kernel_rfl) (by simp) ?_
      refine AllReadyIn.cons rfl (fun K hK => ?_) ?_
      · go_simp
        refine hK _ _ ?_
        rw [← hG]
        exact H01_
      refine AllReadyIn.cons rfl (fun K hK => ?_) ?_
      · go_simp
        refine hK _ _ ?_
        rw [← hG]
        exact H12_
      refine AllReadyIn.cons rfl (fun K hK => ?_) ?_
      · go_simp
        refine hK _ _ ?_
        rw [← hG]
        exact H13_
      refine AllReadyIn.cons rfl (fun K hK => ?_) ?_
      · go_simp
        refine hK _ _ ?_
        rw [← hG]
        exact H15_
      exact AllReadyIn.nil
    have H2_ : G 9 #[false, false, true, false, false, false, false, false, false, false] { tmps := #[.agg #[.int .i64 n, .int .i64 L], .int .i64 p, .pointer (some ⟨w.heap.size, 0, none⟩), .pointer (some ⟨w.heap.size + 1, 0, none⟩), .slice none 0 0, .pointer (some ⟨w.heap.size + 1 + 1, 0, none⟩), .pointer (some ⟨w1.heap.size, 0, none⟩), .int .i64 (u : Int), .pointer (some ⟨w.heap.size, 1, none⟩), .int .i64 L, .int .i64 (2 * (L : Int)), .int .i64 (2 * (L : Int) + 1), .pointer (some ⟨w.heap.size, 0, none⟩), .int .i64 n, .slice (some ⟨w.heap.size + 1 + 1 + 1, 0, none⟩) n n, .slice (some ⟨w.heap.size + 1 + 1 + 1, 0, none⟩) n n, .func (.func 146) #[] #[.pointer (some ⟨w1.heap.size + 1, 0, none⟩)], .int .i64 (u : Int), .int .i64 z, undef, undef, .int .i64 (P : Int), undef, undef, undef, undef, undef, undef, undef, undef, undef, undef], defers := [] } W.drew := by
      rw [hG]
      refine wpAnyIn_ready (rs := [0, 1, 3, 5]) (by kernel_rfl) (by simp) ?_
      refine AllReadyIn.cons rfl (fun K hK => ?_) ?_
      · go_simp
        refine hK _ _ ?_
        rw [← hG]
        exact H02_
      refine AllReadyIn.cons rfl (fun K hK => ?_) ?_
      · go_simp
        refine hK _ _ ?_
        rw [← hG]
        exact H12_
      refine AllReadyIn.cons rfl (fun K hK => ?_) ?_
      · go_simp
        refine hK _ _ ?_
        rw [← hG]
        exact H23_
      refine AllReadyIn.cons rfl (fun K hK => ?_) ?_
      · go_simp
        refine hK _ _ ?_
        rw [← hG]
        exact H25_
      exact AllReadyIn.nil
    have H3_ : G 9 #[false, false, false, true, false, false, false, false, false, false] { tmps := #[.agg #[.int .i64 n, .int .i64 L], .int .i64 p, .pointer (some ⟨w.heap.size, 0, none⟩), .pointer (some ⟨w.heap.size + 1, 0, none⟩), .slice none 0 0, .pointer (some ⟨w.heap.size + 1 + 1, 0, none⟩), .pointer (some ⟨w1.heap.size, 0, none⟩), .int .i64 (u : Int), .pointer (some ⟨w.heap.size, 1, none⟩), .int .i64 L, .int .i64 (2 * (L : Int)), .int .i64 (2 * (L : Int) + 1), .pointer (some ⟨w.heap.size, 0, none⟩), .int .i64 n, .slice (some ⟨w.heap.size + 1 + 1 + 1, 0, none⟩) n n, .slice (some ⟨w.heap.size + 1 + 1 + 1, 0, none⟩) n n, .func (.func 146) #[] #[.pointer (some ⟨w1.heap.size + 1, 0, none⟩)], .int .i64 (u : Int), .int .i64 z, undef, undef, undef, .int .i64 (2 * (L : Int) + 1), undef, undef, undef, undef, undef, undef, undef, undef, undef], defers := [] } W.drew := by
      rw [hG]
      refine wpAnyIn_ready (rs := [0, 1, 2, 5]) (by kernel_rfl) (by simp) ?_
      refine AllReadyIn.cons rfl (fun K hK => ?_) ?_
      · go_simp
        refine hK _ _ ?_
        rw [← hG]
        exact H03_
      refine AllReadyIn.cons rfl (fun K hK => ?_) ?_
      · go_simp
        refine hK _ _ ?_
        rw [← hG]
        exact H13_
      refine AllReadyIn.cons rfl (fun K hK => ?_) ?_
      · go_simp
        refine hK _ _ ?_
        rw [← hG]
        exact H23_
      refine AllReadyIn.cons rfl (fun K hK => ?_) ?_
      · go_simp
        refine hK _ _ ?_
        rw [← hG]
        exact H35_
      exact AllReadyIn.nil
    have H5_ : G 9 #[false, false, false, false, false, true, false, false, false, false] { tmps := #[.agg #[.int .i64 n, .int .i64 L], .int .i64 p, .pointer (some ⟨w.heap.size, 0, none⟩), .pointer (some ⟨w.heap.size + 1, 0, none⟩), .slice none 0 0, .pointer (some ⟨w.heap.size + 1 + 1, 0, none⟩), .pointer (some ⟨w1.heap.size, 0, none⟩), .int .i64 (u : Int), .pointer (some ⟨w.heap.size, 1, none⟩), .int .i64 L, .int .i64 (2 * (L : Int)), .int .i64 (2 * (L : Int) + 1), .pointer (some ⟨w.heap.size, 0, none⟩), .int .i64 n, .slice (some ⟨w.heap.size + 1 + 1 + 1, 0, none⟩) n n, .slice (some ⟨w.heap.size + 1 + 1 + 1, 0, none⟩) n n, .func (.func 146) #[] #[.pointer (some ⟨w1.heap.size + 1, 0, none⟩)], .int .i64 (u : Int), .int .i64 z, undef, undef, undef, undef, undef, .pointer (some ⟨w.heap.size, 1, none⟩), undef, undef, undef, undef, undef, undef, undef], defers := [] } W.drew := by
      rw [hG]
      refine wpAnyIn_ready (rs := [0, 1, 2, 3, 6]) (by kernel_rfl) (by simp) ?_
      refine AllReadyIn.cons rfl (fun K hK => ?_) ?_
      · go_simp
        refine hK _ _ ?_
        rw [← hG]
        exact H05_
      refine AllReadyIn.cons rfl (fun K hK => ?_) ?_
      · go_simp
        refine hK _ _ ?_
        rw [← hG]
        exact H15_
      refine AllReadyIn.cons rfl (fun K hK => ?_) ?_
      · go_simp
        refine hK _ _ ?_
        rw [← hG]
        exact H25_
      refine AllReadyIn.cons rfl (fun K hK => ?_) ?_
      · go_simp
        refine hK _ _ ?_
        rw [← hG]
        exact H35_
      refine AllReadyIn.cons rfl (fun K hK => ?_) ?_
      · go_simp
        refine hK _ _ ?_
        rw [← hG]
        exact H56_
      exact AllReadyIn.nil
    rw [hG]
    refine wpAnyIn_ready (rs := [0, 1, 2, 3, 5]) (by kernel_rfl) (by simp) ?_
    refine AllReadyIn.cons rfl (fun K hK => ?_) ?_
    · go_simp
      refine hK _ _ ?_
      rw [← hG]
      exact H0_
    refine AllReadyIn.cons rfl (fun K hK => ?_) ?_
    · go_simp
      refine hK _ _ ?_
      rw [← hG]
      exact H1_
    refine AllReadyIn.cons rfl (fun K hK => ?_) ?_
    · go_simp
      refine hK _ _ ?_
      rw [← hG]
      exact H2_
    refine AllReadyIn.cons rfl (fun K hK => ?_) ?_
    · go_simp
      refine hK _ _ ?_
      rw [← hG]
      exact H3_
    refine AllReadyIn.cons rfl (fun K hK => ?_) ?_
    · go_simp
      refine hK _ _ ?_
      rw [← hG]
      exact H5_
    exact AllReadyIn.nil
end Go.Proofs.Ytoephhhofkmgjab.cubat
