/- A list in a box that a visitor appends to: what it changes; the visitor of PerceptronTrace. -/
import Derived.Test.YtocbklmkphgkeaaWalkR
import Derived.Test.YtocbklmkphgkeaaCountsI
import Derived.Test.YtocbklmkphgkeaaWalkN
import Derived.Test.YtocbklmkphgkeaaDual
namespace Go.Proofs.Ytocbklmkphgkeaa.walkt
open Go.RowKit own own1 pp nums dots fill step range kept samplest samplesv planes runp made
set_option linter.unusedVariables false
set_option linter.unusedSimpArgs false
attribute [local go_sem ↓] Go.wp_at_zero Go.wp_at_succ

/-- The box K has the list tv of its own memory since lo. -/
def Tr (K lo : Nat) (W : World) (tv : Value) (TR : List Int) : Prop :=
  W.cell? ⟨K, 0, none⟩ = some tv ∧ W.frozen? ⟨K, 0, none⟩ = false ∧ W.ownsRow lo 3 1 tv TR.length (TR.map (Value.int .i64)) ∧ (∀ g, tv.ownBlock = some g → g ≠ K)
/-- Only the box K and the list's own block have changed; a new own block is a new one. -/
def Chg (K : Nat) (W W' : World) (tv tv' : Value) : Prop :=
  W.heap.size ≤ W'.heap.size ∧ (∀ g, g < W.heap.size → g ≠ K → tv.ownBlock ≠ some g → W'.heap[g]? = W.heap[g]?) ∧ (∀ g, tv'.ownBlock = some g → tv.ownBlock = some g ∨ W.heap.size ≤ g)
section
variable {K lo : Nat} {W W' W1 W2 : World} {tv tv' tv1 tv2 : Value} {TR : List Int}
theorem Chg.of (h : Below W.heap.size W W') (tv : Value) : Chg K W W' tv tv := ⟨h.size, fun g hg _ _ => h.block g hg, fun g e => .inl e⟩
theorem Chg.trans (h : Chg K W W1 tv tv1) (h2 : Chg K W1 W2 tv1 tv2) : Chg K W W2 tv tv2 :=
  ⟨Nat.le_trans h.1 h2.1, fun g hg hk ho => (h2.2.1 g (by have := h.1; omega) hk (fun e => by rcases h.2.2 g e with e2 | e2; exact ho e2; omega)).trans (h.2.1 g hg hk ho),
    fun g e => by rcases h2.2.2 g e with e2 | e2; exact h.2.2 g e2; exact .inr (by have := h.1; omega)⟩
theorem Chg.set (h : Chg K W W' tv tv') {a : Addr} (ha : W.heap.size ≤ a.block) (u : Value) : Chg K W (W'.setCell a u) tv tv' :=
  ⟨by rw [size_set]; exact h.1, fun g hg hk ho => (Below.heap_setCell _ _ _ _ (by omega)).trans (h.2.1 g hg hk ho), h.2.2⟩
theorem Chg.cell (h : Chg K W W' tv tv') {b o : Nat} {x : Value} (hb : b < W.heap.size) (hk : b ≠ K) (ho : tv.ownBlock ≠ some b) (hx : W.cell? ⟨b, o, none⟩ = some x) : W'.cell? ⟨b, o, none⟩ = some x :=
  (World.cell?_of_block (a := ⟨b, o, none⟩) (h.2.1 b hb hk ho)).trans hx
theorem Chg.fro (h : Chg K W W' tv tv') {b o : Nat} (hb : b < W.heap.size) (hk : b ≠ K) (ho : tv.ownBlock ≠ some b) (hx : W.frozen? ⟨b, o, none⟩ = false) : W'.frozen? ⟨b, o, none⟩ = false :=
  (World.frozen?_of_block (a := ⟨b, o, none⟩) (h.2.1 b hb hk ho)).trans hx
theorem Chg.own (h : Chg K W W' tv tv') {l hi : Nat} {v : Value} {zs : List Int} (hv : OwnI l hi W v zs) (hk : ∀ g, v.ownBlock = some g → g ≠ K ∧ tv.ownBlock ≠ some g) : OwnI l hi W' v zs :=
  hv.block fun g e => h.2.1 g (hv.lt e).2.2 (hk g e).1 (hk g e).2
theorem Tr.below (h : Tr K lo W tv TR) (hK : K < W.heap.size) (hb : Below W.heap.size W W') : Tr K lo W' tv TR :=
  ⟨cell_below hb h.1 hK, fro_below hb h.2.1 hK, ownsRow_block h.2.2.1 (fun g e => hb.block g (h.2.2.1.lt g e).2), h.2.2.2⟩
theorem Tr.set (h : Tr K lo W tv TR) {a : Addr} (ha : a.block ≠ K) (ho : tv.ownBlock ≠ some a.block) (u : Value) : Tr K lo (W.setCell a u) tv TR :=
  ⟨(World.cell?_setCell_other _ _ _ _ (by intro e; exact ha (by rw [e]))).trans h.1, by rw [World.frozen?_setCell]; exact h.2.1, ownsRow_block h.2.2.1 (fun g e => Below.heap_setCell _ _ _ _ (by intro e2; exact ho (by rw [e, e2]))), h.2.2.2⟩
theorem Chg.low (h : Chg K W W' tv tv') (hb : Below W.heap.size W' W1) : Chg K W W1 tv tv' :=
  ⟨Nat.le_trans h.1 hb.size, fun g hg hk ho => (hb.block g hg).trans (h.2.1 g hg hk ho), h.2.2⟩
theorem Tr.grow {O : Obj} {u : Value} (h : Tr K lo W tv TR) (hK : K < W.heap.size) (hg : (W.alloc O).grownBy W1 u.ownBlock) (hk : u.ownBlock ≠ some K) (ha : ∀ g, tv.ownBlock = some g → u.ownBlock ≠ some g) : Tr K lo W1 tv TR :=
  ⟨(World.cell?_of_block (a := ⟨K, 0, none⟩) (grown_block hg K hK hk)).trans h.1, (World.frozen?_of_block (a := ⟨K, 0, none⟩) (grown_block hg K hK hk)).trans h.2.1, ownsRow_block h.2.2.1 (fun g e => grown_block hg g (h.2.2.1.lt g e).2 (ha g e)), h.2.2.2⟩
end
set_option maxRecDepth 100000 in
set_option maxHeartbeats 4000000 in
theorem visit (K lo : Nat) (i : Int) (p : Option Addr) (n q : Nat) (b : Int) (tv : Value) (TR : List Int) (w : World) (hT : Tr K lo w tv TR) (hK : K < w.heap.size) (hlo : lo ≤ K) (hl : TR.length ≤ 1000) :
    Calls Try.prog 114 #[.int .i64 i, .agg #[.slice p n q, .int .i64 b], .pointer (some ⟨K, 0, none⟩)] w (fun e w' => ∃ tv', e = .returned (.tuple #[]) ∧ Tr K lo w' tv' (TR ++ [i]) ∧ Chg K w w' tv tv' ∧ Below lo w w') := by
  obtain ⟨iI, hi', hz0', hz1', hz2'⟩ := info_parts own1.infoInt
  obtain ⟨k0, k1, k2, k3⟩ := hT
  generalize htl : TR.length = tl at *
  have HTL := Lib.hid htl
  clear htl
  have HO := Lib.hid k2
  have HK3 := Lib.hid k3
  have HK0 := Lib.hid (And.intro k0 k1)
  have HNW := Lib.hid (show ∀ (j : Nat) (u : Value), [Value.int .i64 i][j]? = some u → ((w.alloc (.cells #[.slice p n q, .int .i64 b] 46)).alloc (.cells #[.int .i64 i] 3)).cell? ((⟨w.heap.size + 1, 0, none⟩ : Addr).add j) = some u from fun j u hj => by
    cases j with
    | zero =>
      simp at hj; subst hj
      exact cell_new _ _ _ (by simp) rfl
    | succ j => simp at hj)
  have k9 : (w.alloc (.cells #[.slice p n q, .int .i64 b] 46)).cell? ⟨K, 0, none⟩ = some tv := cell_old _ k0
  clear k2 k3
  go_enter Try.func114, Try.ntmps114
  go_wp2_with (at_builtin; refine wpList_append_lies _ rfl _ _ 23 rfl lo 3 iI (.int .i64 0) 1 8 Try.underlying23 hi' hz0' hz1' hz2' rfl (by decide) tv tl (TR.map (Value.int .i64)) rfl ((HO.out.alloc _).alloc _) _ 1 1 [.int .i64 i] rfl rfl HNW.out (by simp [Value.oneCell']) (by omega) (by unfold maxLen; omega) (by omega) (by simp; omega) _ rfl ?_; intro gg cap w3 hown hgrow hat hlt9; refine Hid.out ?_)
  refine Lib.hid ?_
  have nf : ∀ x, some x = tv.ownBlock → x = K → False := fun x e h => HK3.out x e.symm h
  have c3 : w3.cell? ⟨K, 0, none⟩ = some tv := hgrow.cell (cell_old _ (cell_old _ HK0.out.1)) (fun e => nf _ e rfl)
  have z3 : w3.frozen? ⟨K, 0, none⟩ = false := (hgrow.frozen_far ⟨K, 0, none⟩ (by simp; omega) (fun e => nf _ e rfl)).trans (fro_old _ (by simp; omega) (fro_old _ hK HK0.out.2))
  have hs3 : w.heap.size + 2 ≤ w3.heap.size := Nat.le_trans (by simp) hgrow.size
  have hgK : gg ≠ K := by
    rcases hat with ha | ha
    · exact HK3.out gg ha
    · simp at ha; omega
  have HT4 := Lib.hid (show Tr K lo (w3.setCell ⟨K, 0, none⟩ (Value.slice (some ⟨gg, 0, none⟩) (tl + 1) cap)) (Value.slice (some ⟨gg, 0, none⟩) (tl + 1) cap) (TR ++ [i]) from ⟨World.cell?_setCell_same _ _ _ c3, by rw [World.frozen?_setCell]; exact z3, by
    have h9 := ownsRow_block (w' := (w3.setCell ⟨K, 0, none⟩ (Value.slice (some ⟨gg, 0, none⟩) (tl + 1) cap))) hown (fun g e => Below.heap_setCell _ _ _ _ (by have h8 : gg = g := (by simpa [Value.ownBlock] using e); simp; omega))
    simpa [HTL.out] using h9, fun g e => by (have h8 : gg = g := by simpa [Value.ownBlock] using e); omega⟩)
  have HC4 := Lib.hid (show Chg K w (w3.setCell ⟨K, 0, none⟩ (Value.slice (some ⟨gg, 0, none⟩) (tl + 1) cap)) tv (Value.slice (some ⟨gg, 0, none⟩) (tl + 1) cap) from ⟨by rw [size_set]; omega, fun g hg hk ho => (Below.heap_setCell _ _ _ _ (by simp; omega)).trans ((hgrow.block g (by simp; omega) (fun e => ho e.symm)).trans ((Below.heap_alloc _ _ g (by simp; omega)).trans (Below.heap_alloc _ _ g hg))), fun g e => by
    obtain rfl : gg = g := by simpa [Value.ownBlock] using e
    rcases hat with ha | ha
    · exact .inl ha
    · right; simp at ha; omega⟩)
  have HB4 := Lib.hid (show Below lo w (w3.setCell ⟨K, 0, none⟩ (Value.slice (some ⟨gg, 0, none⟩) (tl + 1) cap)) from (((((Below.refl lo w).alloc (by omega) (.cells #[.slice p n q, .int .i64 b] 46)).alloc (by simp; omega) (.cells #[.int .i64 i] 3)).grown hgrow (by simp; omega) (fun g e => (HO.out.lt g e).1)).setCell (by simp; omega) _))
  clear hown hgrow hat HNW k9
  go_wp2_with fail
  exact bodyPost_end (v := .tuple #[]) (by simp [results, Try.results114, go_sem]) rfl ⟨_, rfl, HT4.out, HC4.out, HB4.out⟩
end Go.Proofs.Ytocbklmkphgkeaa.walkt

namespace Go.Proofs.Ytocbklmkphgkeaa.walkt
open Go.RowKit own own1 pp nums dots fill step range kept samplest samplesv planes runp made
open walkr hiding visit
set_option linter.unusedVariables false
set_option linter.unusedSimpArgs false
attribute [local go_sem ↓] Go.wp_at_zero Go.wp_at_succ
/-- How a round comes back. -/
def PostRound (K : Nat) (b0 : World) (tv0 : Value) (rows : List (List Int)) (zs : List Int) (st : Sta) (w : World) (e : Ending) (w' : World) : Prop :=
  ∃ tv', Below b0.heap.size b0 w' ∧ Chg K w w' tv0 tv' ∧ (okTo rows zs st rows.length = true → (∃ v, e = .returned (.tuple #[.agg #[v, .int .i64 (inn rows zs st rows.length).p.2], .int .i64 (cn rows zs st rows.length), .bool true]) ∧ OwnI w.heap.size w'.heap.size w' v (inn rows zs st rows.length).p.1) ∧ Tr K b0.heap.size w' tv' (inn rows zs st rows.length).tr) ∧
    (okTo rows zs st rows.length = false → e = .returned (.tuple #[.agg #[.slice none 0 0, .int .i64 0], .int .i64 0, .bool false]))
set_option maxRecDepth 100000 in
set_option maxHeartbeats 4000000 in
theorem impl_round (K : Nat) (b0 : World) (tv0 : Value) (st : Sta) (a : Option Addr) (rows : List (List Int)) (c : Nat) (a' : Option Addr) (zs : List Int) (c' : Nat) (pv : Option Addr) (qv : Nat) (w : World) (hr : grid.Reads b0 a rows) (hz : ints.Reads .i64 b0 a' zs) (hq : ints.Reads .i64 w pv st.p.1) (hL : Below b0.heap.size b0 w) (hT : Tr K b0.heap.size w tv0 st.tr) (hK : K < w.heap.size) (hKl : b0.heap.size ≤ K) (hl : st.tr.length ≤ 500) (hF : RF rows zs) (hP : okP st = true) (hD : st.p.1.length = (rows.getD 0 []).length) :
    Calls Try.prog 142 #[.agg #[.slice a rows.length c, .slice a' zs.length c'], .agg #[.slice pv st.p.1.length qv, .int .i64 st.p.2], .func (.func 114) #[] #[.pointer (some ⟨K, 0, none⟩)]] w (PostRound K b0 tv0 rows zs st w) := by
  have HF := Lib.hid hF
  have HPS := Lib.hid hP
  have HDM := Lib.hid hD
  have HL := Lib.hid hL
  have HT := Lib.hid hT
  have HLT := Lib.hid hl
  clear hF hP hD hL hT
  have Hhr := Lib.hid hr
  have Hhz := Lib.hid hz
  have Hhq := Lib.hid hq
  clear hr hz hq
  go_enter Try.func142, Try.ntmps142
  go_wp2_with fail
  have x0_0 : (w.alloc (.cells #[.slice a rows.length c, .slice a' zs.length c'] 27)).cell? ⟨w.heap.size, 0, none⟩ = some (.slice a rows.length c) := cell_new _ _ _ (by simp) rfl
  have x0_1 : (w.alloc (.cells #[.slice a rows.length c, .slice a' zs.length c'] 27)).cell? ⟨w.heap.size, 1, none⟩ = some (.slice a' zs.length c') := cell_new _ _ _ (by simp) rfl
  have HB0 := Lib.hid (below_alloc w (.cells #[.slice a rows.length c, .slice a' zs.length c'] 27))
  replace x0_0 := cell_old (.cells #[.slice pv st.p.1.length qv, .int .i64 st.p.2] 46) x0_0
  replace x0_1 := cell_old (.cells #[.slice pv st.p.1.length qv, .int .i64 st.p.2] 46) x0_1
  have x1_0 : ((w.alloc (.cells #[.slice a rows.length c, .slice a' zs.length c'] 27)).alloc (.cells #[.slice pv st.p.1.length qv, .int .i64 st.p.2] 46)).cell? ⟨w.heap.size + 1, 0, none⟩ = some (.slice pv st.p.1.length qv) := cell_new _ _ _ (by simp) rfl
  have x1_1 : ((w.alloc (.cells #[.slice a rows.length c, .slice a' zs.length c'] 27)).alloc (.cells #[.slice pv st.p.1.length qv, .int .i64 st.p.2] 46)).cell? ⟨w.heap.size + 1, 1, none⟩ = some (.int .i64 st.p.2) := cell_new _ _ _ (by simp) rfl
  have f1_0 : ((w.alloc (.cells #[.slice a rows.length c, .slice a' zs.length c'] 27)).alloc (.cells #[.slice pv st.p.1.length qv, .int .i64 st.p.2] 46)).frozen? ⟨w.heap.size + 1, 0, none⟩ = false := fro_new _ _ _ (by simp)
  have f1_1 : ((w.alloc (.cells #[.slice a rows.length c, .slice a' zs.length c'] 27)).alloc (.cells #[.slice pv st.p.1.length qv, .int .i64 st.p.2] 46)).frozen? ⟨w.heap.size + 1, 1, none⟩ = false := fro_new _ _ _ (by simp)
  replace HB0 := Lib.hid (HB0.out.alloc (by simp) (.cells #[.slice pv st.p.1.length qv, .int .i64 st.p.2] 46))
  replace x0_0 := cell_old (.cells #[.slice none 0 0, .int .i64 0] 46) x0_0
  replace x0_1 := cell_old (.cells #[.slice none 0 0, .int .i64 0] 46) x0_1
  replace x1_0 := cell_old (.cells #[.slice none 0 0, .int .i64 0] 46) x1_0
  replace x1_1 := cell_old (.cells #[.slice none 0 0, .int .i64 0] 46) x1_1
  replace f1_0 := fro_below (below_alloc ((w.alloc (.cells #[.slice a rows.length c, .slice a' zs.length c'] 27)).alloc (.cells #[.slice pv st.p.1.length qv, .int .i64 st.p.2] 46)) (.cells #[.slice none 0 0, .int .i64 0] 46)) f1_0 (by simp)
  replace f1_1 := fro_below (below_alloc ((w.alloc (.cells #[.slice a rows.length c, .slice a' zs.length c'] 27)).alloc (.cells #[.slice pv st.p.1.length qv, .int .i64 st.p.2] 46)) (.cells #[.slice none 0 0, .int .i64 0] 46)) f1_1 (by simp)
  have x2_0 : (((w.alloc (.cells #[.slice a rows.length c, .slice a' zs.length c'] 27)).alloc (.cells #[.slice pv st.p.1.length qv, .int .i64 st.p.2] 46)).alloc (.cells #[.slice none 0 0, .int .i64 0] 46)).cell? ⟨w.heap.size + 1 + 1, 0, none⟩ = some (.slice none 0 0) := cell_new _ _ _ (by simp) rfl
  have x2_1 : (((w.alloc (.cells #[.slice a rows.length c, .slice a' zs.length c'] 27)).alloc (.cells #[.slice pv st.p.1.length qv, .int .i64 st.p.2] 46)).alloc (.cells #[.slice none 0 0, .int .i64 0] 46)).cell? ⟨w.heap.size + 1 + 1, 1, none⟩ = some (.int .i64 0) := cell_new _ _ _ (by simp) rfl
  have f2_0 : (((w.alloc (.cells #[.slice a rows.length c, .slice a' zs.length c'] 27)).alloc (.cells #[.slice pv st.p.1.length qv, .int .i64 st.p.2] 46)).alloc (.cells #[.slice none 0 0, .int .i64 0] 46)).frozen? ⟨w.heap.size + 1 + 1, 0, none⟩ = false := fro_new _ _ _ (by simp)
  have f2_1 : (((w.alloc (.cells #[.slice a rows.length c, .slice a' zs.length c'] 27)).alloc (.cells #[.slice pv st.p.1.length qv, .int .i64 st.p.2] 46)).alloc (.cells #[.slice none 0 0, .int .i64 0] 46)).frozen? ⟨w.heap.size + 1 + 1, 1, none⟩ = false := fro_new _ _ _ (by simp)
  replace HB0 := Lib.hid (HB0.out.alloc (by simp; omega) (.cells #[.slice none 0 0, .int .i64 0] 46))
  have s0 : w.heap.size + 3 ≤ (((w.alloc (.cells #[.slice a rows.length c, .slice a' zs.length c'] 27)).alloc (.cells #[.slice pv st.p.1.length qv, .int .i64 st.p.2] 46)).alloc (.cells #[.slice none 0 0, .int .i64 0] 46)).heap.size := by simp
  generalize hw : (((w.alloc (.cells #[.slice a rows.length c, .slice a' zs.length c'] 27)).alloc (.cells #[.slice pv st.p.1.length qv, .int .i64 st.p.2] 46)).alloc (.cells #[.slice none 0 0, .int .i64 0] 46)) = w0 at *
  clear hw
  have n0_0 : w.heap.size < w0.heap.size := by omega
  have n0_1 : w.heap.size + 1 < w0.heap.size := by omega
  have n0_2 : w.heap.size + 1 + 1 < w0.heap.size := by omega
  have HOT := Lib.hid (show w0.cell? ⟨w.heap.size, 0, none⟩ = some (.slice a rows.length c) ∧ w0.cell? ⟨w.heap.size, 1, none⟩ = some (.slice a' zs.length c') ∧ w0.cell? ⟨w.heap.size + 2, 0, none⟩ = some (.slice none 0 0) ∧ w0.cell? ⟨w.heap.size + 2, 1, none⟩ = some (.int .i64 0) ∧ w0.frozen? ⟨w.heap.size + 2, 0, none⟩ = false ∧ w0.frozen? ⟨w.heap.size + 2, 1, none⟩ = false ∧ w0.frozen? ⟨w.heap.size + 1, 0, none⟩ = false ∧ w0.frozen? ⟨w.heap.size + 1, 1, none⟩ = false from ⟨x0_0, x0_1, x2_0, x2_1, f2_0, f2_1, f1_0, f1_1⟩)
  have HREL := Lib.hid (show ∃ (pv : Option Addr) (qv : Nat), (w0.cell? ⟨w.heap.size + 1, 0, none⟩ = some (.slice pv (inn rows zs st 0).p.1.length qv) ∧ w0.cell? ⟨w.heap.size + 1, 1, none⟩ = some (.int .i64 (inn rows zs st 0).p.2)) ∧ ints.Reads .i64 w0 pv (inn rows zs st 0).p.1 ∧ (0 < 0 → OwnI (w.heap.size + 3) w0.heap.size w0 (.slice pv (inn rows zs st 0).p.1.length qv) (inn rows zs st 0).p.1) from ⟨pv, qv, ⟨x1_0, x1_1⟩, Hhq.out.below HB0.out, fun h => absurd h (by decide)⟩)
  clear x0_1 x1_0 x1_1 x2_0 x2_1 f2_0 f2_1
  have hs2 : w.heap.size + 2 < w0.heap.size := by omega
  have HsC := Lib.hid hs2
  have hbw := HL.out.size
  have htl9 := HT.out.2.2.1
  have HTV := Lib.hid (show ∃ tv, Tr K b0.heap.size w0 tv (inn rows zs st 0).tr ∧ Chg K w w0 tv0 tv ∧ (∀ g, tv.ownBlock = some g → g ≠ w.heap.size ∧ g ≠ w.heap.size + 1 ∧ g ≠ w.heap.size + 2) from ⟨tv0, HT.out.below hK HB0.out, Chg.of HB0.out tv0, fun g e => by have := (htl9.lt g e).2; omega⟩)
  have HBL := Lib.hid (HL.out.trans (HB0.out.mono hbw))
  clear htl9
  go_wp2_with fail
  clear x0_0
  go_loopw [9, 18] (fun m i wr => ∃ k : Nat, k ≤ rows.length ∧ m = .int .i64 (cn rows zs st k) ∧ i = .int .i64 k ∧ Hid (∀ q, q < k → okP (inn rows zs st (q + 1)) = true) ∧ Hid (∃ (pv : Option Addr) (qv : Nat), (wr.cell? ⟨w.heap.size + 1, 0, none⟩ = some (.slice pv (inn rows zs st k).p.1.length qv) ∧ wr.cell? ⟨w.heap.size + 1, 1, none⟩ = some (.int .i64 (inn rows zs st k).p.2)) ∧ ints.Reads .i64 wr pv (inn rows zs st k).p.1 ∧ (0 < k → OwnI (w.heap.size + 3) wr.heap.size wr (.slice pv (inn rows zs st k).p.1.length qv) (inn rows zs st k).p.1)) ∧ Hid (wr.cell? ⟨w.heap.size, 0, none⟩ = some (.slice a rows.length c) ∧ wr.cell? ⟨w.heap.size, 1, none⟩ = some (.slice a' zs.length c') ∧ wr.cell? ⟨w.heap.size + 2, 0, none⟩ = some (.slice none 0 0) ∧ wr.cell? ⟨w.heap.size + 2, 1, none⟩ = some (.int .i64 0) ∧ wr.frozen? ⟨w.heap.size + 2, 0, none⟩ = false ∧ wr.frozen? ⟨w.heap.size + 2, 1, none⟩ = false ∧ wr.frozen? ⟨w.heap.size + 1, 0, none⟩ = false ∧ wr.frozen? ⟨w.heap.size + 1, 1, none⟩ = false) ∧ Hid (Below b0.heap.size b0 wr) ∧ Hid (∃ tv, Tr K b0.heap.size wr tv (inn rows zs st k).tr ∧ Chg K w wr tv0 tv ∧ (∀ g, tv.ownBlock = some g → g ≠ w.heap.size ∧ g ≠ w.heap.size + 1 ∧ g ≠ w.heap.size + 2)) ∧ Hid (w.heap.size + 2 < wr.heap.size)) (fun _ i _ => rows.length - (intOf i).toNat)
  case atStart => exact ⟨0, Nat.zero_le _, rfl, rfl, Lib.hid (fun q hq => by omega), HREL, HOT, HBL, HTV, HsC⟩
  case round =>
    obtain ⟨k, hk, rfl, rfl, HOK, HR, HX, HBl, HTW, HS⟩ := hrel
    clear HREL HOT HsC hs2 HTV HBL
    obtain ⟨tv, htr, hch, hnb⟩ := HTW.out
    have HTR := Lib.hid htr
    have HCG := Lib.hid hch
    have HNB := Lib.hid hnb
    have htrl := (tr_len rows zs st k).1
    clear HTW htr hch hnb
    have hs2 := HS.out
    have hcn := cn_le rows zs st k
    have HPK := Lib.hid (show okP (inn rows zs st k) = true from by
      cases k with
      | zero => exact HPS.out
      | succ k => exact HOK.out k (by omega))
    have HLE := Lib.hid (show (inn rows zs st k).p.1.length = (rows.getD 0 []).length from by rw [inn_len]; exact HDM.out)
    obtain ⟨pv, qv, hpc, hpr, hpo⟩ := HR.out
    clear HR
    by_cases hlt : k < rows.length
    · cases hok : okP (inn rows zs st (k + 1))
      · obtain ⟨bl, off, rp, rq, rfl, hbl, hc, hpq, hrow⟩ := Hhr.out.at hlt
        obtain ⟨lb, lo, rfl, hll, hlc⟩ := Hhz.out.at (k := k) (by have := HF.out.both; omega)
        have hbel := HBl.out
        have HROW := Lib.hid (hrow.below hbel)
        replace hc := cell_below hbel hc hbl
        replace hlc := cell_below hbel hlc hll
        have xl := HX.out.2.1
        obtain ⟨y0, y1⟩ := hpc
        have HPR := Lib.hid hpr
        have HSB := Lib.hid (step_ok HF.out HPK.out HLE.out hlt)
        have HST := Lib.hid (step_p rows zs st k)
        have HL4 := Lib.hid (st_fit HF.out HPK.out HLE.out k hlt)
        have s16 := HF.out.few
        have i1 : (0 : Int) ≤ (k : Int) := by omega
        have i2 : (k : Int) < (rows.length : Int) := by omega
        have i3 : (k : Int) < (zs.length : Int) := by have := HF.out.both; omega
        clear hrow hpq hpr hpo hbel
        have HNT := Lib.hid (okTo_no hlt hok)
        have HSB2 := Lib.hid (HSB.out.trans hok)
        clear hok HSB
        have htl8 : (inn rows zs st k).tr.length ≤ 520 := by have := HLT.out; omega
        clear htrl
        generalize inn rows zs st k = sn at *
        generalize cn rows zs st k = cnt at *
        obtain ⟨⟨ws, b⟩, smi, str, spl⟩ := sn
        dsimp only at *
        generalize rows.getD k [] = r at *
        generalize zs.getD k 0 = y at *
        have HT := Lib.hid (show ∀ wa : World, (wa.cell? ⟨w.heap.size, 1, none⟩ = some (.slice (some ⟨lb, lo, none⟩) zs.length c') ∧ wa.cell? ⟨lb, lo + k, none⟩ = some (.int .i64 y) ∧ wa.cell? ⟨w.heap.size + 1, 0, none⟩ = some (.slice pv ws.length qv) ∧ wa.cell? ⟨w.heap.size + 1, 1, none⟩ = some (.int .i64 b) ∧ Below wr.heap.size wr wa) → Calls Try.prog 48 #[.agg #[.slice pv ws.length qv, .int .i64 b], .slice rp r.length rq, .int .i64 y] wa (fun e w' => ∃ (p1 : Option Addr) (q1 : Nat), e = .returned (.tuple #[.agg #[.slice p1 0 q1, .int .i64 0], .bool false, .bool false]) ∧ Below wa.heap.size wa w' ∧ w'.cell? ⟨w.heap.size, 1, none⟩ = some (.slice (some ⟨lb, lo, none⟩) zs.length c') ∧ w'.cell? ⟨lb, lo + k, none⟩ = some (.int .i64 y) ∧ w'.cell? ⟨w.heap.size + 1, 0, none⟩ = some (.slice pv ws.length qv) ∧ w'.cell? ⟨w.heap.size + 1, 1, none⟩ = some (.int .i64 b) ∧ Below wr.heap.size wr w') from fun wa hS => by
          refine (stepperc.impl_no pv ws qv b rp r rq y wa (HPR.out.below hS.2.2.2.2) (HROW.out.below hS.2.2.2.2) (by have := HL4.out.le; omega) (by have := HL4.out.len; have := HL4.out.le; omega) HSB2.out).mono ?_
          rintro e w' ⟨v', rfl, ho, hb⟩
          obtain ⟨p1, q1, rfl, _, _, _⟩ := ho.slice
          exact ⟨p1, q1, rfl, hb, cell_below hb hS.1 (by have := hS.2.2.2.2.size; omega), cell_below hb hS.2.1 (by have := hS.2.2.2.2.size; omega), cell_below hb hS.2.2.1 (by have := hS.2.2.2.2.size; omega), cell_below hb hS.2.2.2.1 (by have := hS.2.2.2.2.size; omega), hS.2.2.2.2.trans (hb.mono hS.2.2.2.2.size)⟩)
        go_wp2_with fail
        refine wp_region_noPanic ?_
        refine wp_region_held_drew (S := fun w' => w'.cell? ⟨w.heap.size, 1, none⟩ = some (.slice (some ⟨lb, lo, none⟩) zs.length c') ∧ w'.cell? ⟨lb, lo + k, none⟩ = some (.int .i64 y) ∧ w'.cell? ⟨w.heap.size + 1, 0, none⟩ = some (.slice pv ws.length qv) ∧ w'.cell? ⟨w.heap.size + 1, 1, none⟩ = some (.int .i64 b) ∧ Below wr.heap.size wr w') (by kernel_rfl) ?_ (fun hHeld => ?_)
        · exact ⟨xl, hlc, y0, y1, (Below.refl _ _).drew⟩
        refine wpAnyH_take (i := 0) (v := ?_) rfl (by kernel_rfl) (by kernel_rfl) (by kernel_rfl) (fun _ _ _ h => h) (Or.inl ⟨by rfl, ?_⟩) (by assumption) ?_
        rotate_left
        · intro w9 hSw; (try dsimp only at hSw); go_simp; try with_reducible rfl
        try simp only [List.getElem_toArray, List.getElem_cons_succ, List.getElem_cons_zero, Act.put, List.setIfInBounds_toArray, List.set_cons_zero, List.set_cons_succ]
        refine wpAnyH_take (i := 1) (v := ?_) rfl (by kernel_rfl) (by kernel_rfl) (by kernel_rfl) (fun _ _ _ h => h) (Or.inl ⟨by rfl, ?_⟩) (by assumption) ?_
        rotate_left
        · intro w9 hSw; (try dsimp only at hSw); go_simp; try with_reducible rfl
        try simp only [List.getElem_toArray, List.getElem_cons_succ, List.getElem_cons_zero, Act.put, List.setIfInBounds_toArray, List.set_cons_zero, List.set_cons_succ]
        refine wpAnyH_take (i := 2) (v := ?_) rfl (by kernel_rfl) (by kernel_rfl) (by kernel_rfl) (fun _ _ _ h => h) (Or.inl ⟨by rfl, ?_⟩) (by assumption) ?_
        rotate_left
        · intro w9 hSw; (try dsimp only at hSw); go_simp; try with_reducible rfl
        try simp only [List.getElem_toArray, List.getElem_cons_succ, List.getElem_cons_zero, Act.put, List.setIfInBounds_toArray, List.set_cons_zero, List.set_cons_succ]
        refine wpAnyH_take (i := 3) (v := ?_) rfl (by kernel_rfl) (by kernel_rfl) (by kernel_rfl) (fun _ _ _ h => h) (Or.inl ⟨by rfl, ?_⟩) (by assumption) ?_
        rotate_left
        · intro w9 hSw; (try dsimp only at hSw); go_simp; try with_reducible rfl
        try simp only [List.getElem_toArray, List.getElem_cons_succ, List.getElem_cons_zero, Act.put, List.setIfInBounds_toArray, List.set_cons_zero, List.set_cons_succ]
        refine wpAnyH_take (i := 4) (v := ?_) rfl (by kernel_rfl) (by kernel_rfl) (by kernel_rfl) (fun _ _ _ h => h) (Or.inl ⟨by rfl, ?_⟩) (by assumption) ?_
        rotate_left
        · intro w9 hSw; (try dsimp only at hSw); go_simp; try with_reducible rfl
        try simp only [List.getElem_toArray, List.getElem_cons_succ, List.getElem_cons_zero, Act.put, List.setIfInBounds_toArray, List.set_cons_zero, List.set_cons_succ]
        refine wpAnyH_take (i := 5) (v := ?_) rfl (by kernel_rfl) (by kernel_rfl) (by kernel_rfl) (fun _ _ _ h => h) (Or.inl ⟨by rfl, ?_⟩) (by assumption) ?_
        rotate_left
        · intro w9 hSw; (try dsimp only at hSw); go_simp; try with_reducible rfl
        try simp only [List.getElem_toArray, List.getElem_cons_succ, List.getElem_cons_zero, Act.put, List.setIfInBounds_toArray, List.set_cons_zero, List.set_cons_succ]
        refine wpAnyH_take (i := 6) (v := ?_) rfl (by kernel_rfl) (by kernel_rfl) (by kernel_rfl) (fun _ _ _ h => h) (Or.inl ⟨by rfl, ?_⟩) (by assumption) ?_
        rotate_left
        · intro w9 hSw; (try dsimp only at hSw); go_simp; try with_reducible rfl
        try simp only [List.getElem_toArray, List.getElem_cons_succ, List.getElem_cons_zero, Act.put, List.setIfInBounds_toArray, List.set_cons_zero, List.set_cons_succ]
        refine wpAnyH_ready (rs := [7, 12]) (by kernel_rfl) (by simp) ?_
        refine AllReadyH.cons rfl (fun K hK => ?_) ?_
        · go_simp
          refine Calls.mono (HT.out _ ?_) ?_
          · exact hHeld
          clear hHeld
          rintro e va ⟨p1, q1, rfl, hbb, hbx⟩
          refine hK.out _ _ ?_ (fun hHeld => ?_)
          · exact hbx
          clear hK K
          try simp only [List.getElem_toArray, List.getElem_cons_succ, List.getElem_cons_zero, Act.put, List.setIfInBounds_toArray, List.set_cons_zero, List.set_cons_succ]
          refine wpAnyH_take (i := 8) (v := ?_) rfl (by kernel_rfl) (by kernel_rfl) (by kernel_rfl) (fun _ _ _ h => h) (Or.inl ⟨by rfl, ?_⟩) (by assumption) ?_
          rotate_left
          · intro w9 hSw; (try dsimp only at hSw); go_simp; try with_reducible rfl
          try simp only [List.getElem_toArray, List.getElem_cons_succ, List.getElem_cons_zero, Act.put, List.setIfInBounds_toArray, List.set_cons_zero, List.set_cons_succ]
          refine wpAnyH_take (i := 9) (v := ?_) rfl (by kernel_rfl) (by kernel_rfl) (by kernel_rfl) (fun _ _ _ h => h) (Or.inl ⟨by rfl, ?_⟩) (by assumption) ?_
          rotate_left
          · intro w9 hSw; (try dsimp only at hSw); go_simp; try with_reducible rfl
          try simp only [List.getElem_toArray, List.getElem_cons_succ, List.getElem_cons_zero, Act.put, List.setIfInBounds_toArray, List.set_cons_zero, List.set_cons_succ]
          refine wpAnyH_take (i := 10) (v := ?_) rfl (by kernel_rfl) (by kernel_rfl) (by kernel_rfl) (fun _ _ _ h => h) (Or.inl ⟨by rfl, ?_⟩) (by assumption) ?_
          rotate_left
          · intro w9 hSw; (try dsimp only at hSw); go_simp; try with_reducible rfl
          try simp only [List.getElem_toArray, List.getElem_cons_succ, List.getElem_cons_zero, Act.put, List.setIfInBounds_toArray, List.set_cons_zero, List.set_cons_succ]
          refine wpAnyH_take (i := 11) (v := ?_) rfl (by kernel_rfl) (by kernel_rfl) (by kernel_rfl) (fun _ _ _ h => h) (Or.inl ⟨by rfl, ?_⟩) (by assumption) ?_
          rotate_left
          · intro w9 hSw; (try dsimp only at hSw); go_simp; try with_reducible rfl
          try simp only [List.getElem_toArray, List.getElem_cons_succ, List.getElem_cons_zero, Act.put, List.setIfInBounds_toArray, List.set_cons_zero, List.set_cons_succ]
          refine wpAnyH_ready (rs := [12]) (by kernel_rfl) (by simp) ?_
          refine AllReadyH.cons rfl (fun K hK => ?_) ?_
          · go_simp
            refine hK.out _ _ ?_ (fun hHeld => ?_)
            · exact ⟨cell_old _ hbx.1, cell_old _ hbx.2.1, cell_old _ hbx.2.2.1, cell_old _ hbx.2.2.2.1, hbx.2.2.2.2.alloc hbx.2.2.2.2.size _⟩
            clear hK K
            try simp only [List.getElem_toArray, List.getElem_cons_succ, List.getElem_cons_zero, Act.put, List.setIfInBounds_toArray, List.set_cons_zero, List.set_cons_succ]
            refine wpAnyH_ready (rs := [13]) (by kernel_rfl) (by simp) ?_
            refine AllReadyH.cons rfl (fun K hK => ?_) ?_
            · go_simp
              refine hK.out _ _ ?_ (fun hHeld => ?_)
              · exact ⟨cell_old _ hbx.1, cell_old _ hbx.2.1, cell_old _ hbx.2.2.1, cell_old _ hbx.2.2.2.1, hbx.2.2.2.2.alloc hbx.2.2.2.2.size _⟩
              clear hK K
              try simp only [List.getElem_toArray, List.getElem_cons_succ, List.getElem_cons_zero, Act.put, List.setIfInBounds_toArray, List.set_cons_zero, List.set_cons_succ]
              refine wpAnyH_take (i := 14) (v := ?_) rfl (by kernel_rfl) (by kernel_rfl) (by kernel_rfl) (fun _ _ _ h => h) (Or.inl ⟨by rfl, ?_⟩) (by assumption) ?_
              rotate_left
              · intro w9 hSw; (try dsimp only at hSw); go_simp; try with_reducible rfl
              try simp only [List.getElem_toArray, List.getElem_cons_succ, List.getElem_cons_zero, Act.put, List.setIfInBounds_toArray, List.set_cons_zero, List.set_cons_succ]
              refine wpAnyH_take (i := 15) (v := ?_) rfl (by kernel_rfl) (by kernel_rfl) (by kernel_rfl) (fun _ _ _ h => h) (Or.inl ⟨by rfl, ?_⟩) (by assumption) ?_
              rotate_left
              · intro w9 hSw; (try dsimp only at hSw); go_simp; try with_reducible rfl
              try simp only [List.getElem_toArray, List.getElem_cons_succ, List.getElem_cons_zero, Act.put, List.setIfInBounds_toArray, List.set_cons_zero, List.set_cons_succ]
              refine wpAnyH_done (by kernel_rfl) ?_ _
              refine NoPanic.normal ?_
              have HN5 := Lib.hid (show (va.alloc (.cells #[.slice p1 0 q1, .int .i64 0] 46)).cell? ⟨va.heap.size, 0, none⟩ = some (.slice p1 0 q1) ∧ (va.alloc (.cells #[.slice p1 0 q1, .int .i64 0] 46)).cell? ⟨va.heap.size, 1, none⟩ = some (.int .i64 0) from ⟨cell_new _ _ _ rfl rfl, cell_new _ _ _ rfl rfl⟩)
              have HB6 := Lib.hid hHeld.2.2.2.2
              have hNB : wr.heap.size ≤ va.heap.size ∧ va.heap.size < (va.alloc (.cells #[.slice p1 0 q1, .int .i64 0] 46)).heap.size := ⟨by have := hbx.2.2.2.2.size; omega, by first | (simp; done) | (have := hbb.size; simp at this ⊢; omega)⟩
              clear hHeld hbx hbb HT
              generalize (va.alloc (.cells #[.slice p1 0 q1, .int .i64 0] 46)) = w5 at *
              generalize va.heap.size = NB at *
              have n0 := HN5.out.1
              have n1 := HN5.out.2
              have hs5 := HB6.out.size
              obtain ⟨u0, u1, u2, u3, u4, u5, u6, u7⟩ := (show w5.cell? ⟨w.heap.size, 0, none⟩ = some (.slice (some ⟨bl, off, none⟩) rows.length c) ∧ w5.cell? ⟨w.heap.size, 1, none⟩ = some (.slice (some ⟨lb, lo, none⟩) zs.length c') ∧ w5.cell? ⟨w.heap.size + 2, 0, none⟩ = some (.slice none 0 0) ∧ w5.cell? ⟨w.heap.size + 2, 1, none⟩ = some (.int .i64 0) ∧ w5.frozen? ⟨w.heap.size + 2, 0, none⟩ = false ∧ w5.frozen? ⟨w.heap.size + 2, 1, none⟩ = false ∧ w5.frozen? ⟨w.heap.size + 1, 0, none⟩ = false ∧ w5.frozen? ⟨w.heap.size + 1, 1, none⟩ = false from ⟨cell_below HB6.out HX.out.1 (by omega), cell_below HB6.out HX.out.2.1 (by omega), cell_below HB6.out HX.out.2.2.1 (by omega), cell_below HB6.out HX.out.2.2.2.1 (by omega), fro_below HB6.out HX.out.2.2.2.2.1 (by omega), fro_below HB6.out HX.out.2.2.2.2.2.1 (by omega), fro_below HB6.out HX.out.2.2.2.2.2.2.1 (by omega), fro_below HB6.out HX.out.2.2.2.2.2.2.2 (by omega)⟩)
              have HX5 := Lib.hid (And.intro u0 (And.intro u1 (And.intro u2 (And.intro u3 (And.intro u4 (And.intro u5 (And.intro u6 u7)))))))
              have HBW := Lib.hid (HBl.out.trans (HB6.out.mono (by have := HBl.out.size; omega)))
              have hbr := HBl.out.size
              have HT5 := Lib.hid (HTR.out.below (by omega) HB6.out)
              have HC5 := Lib.hid (HCG.out.trans (Chg.of HB6.out tv))
              clear u0 u1 u6 u7
              go_wp2_with fail
              refine bodyPost_ret (v := .tuple #[.agg #[.slice none 0 0, .int .i64 0], .int .i64 0, .bool false]) (by simp [results, Try.results142, go_sem, u2, u3]) rfl ⟨tv, (HBW.out.setCell (by simp; omega) _).setCell (by simp; omega) _, (HC5.out.set (by first | (simp; done) | (simp; omega)) _).set (by first | (simp; done) | (simp; omega)) _, (fun h => by rw [HNT.out] at h; cases h), fun _ => rfl⟩
            exact AllReadyH.nil
          exact AllReadyH.nil
        refine AllReadyH.cons rfl (fun K hK => ?_) ?_
        · go_simp
          refine hK.out _ _ ?_ (fun hHeld => ?_)
          · exact ⟨cell_old _ xl, cell_old _ hlc, cell_old _ y0, cell_old _ y1, ((Below.refl _ _).drew.alloc (Nat.le_refl _) _)⟩
          clear hK K
          try simp only [List.getElem_toArray, List.getElem_cons_succ, List.getElem_cons_zero, Act.put, List.setIfInBounds_toArray, List.set_cons_zero, List.set_cons_succ]
          refine wpAnyH_ready (rs := [7]) (by kernel_rfl) (by simp) ?_
          refine AllReadyH.cons rfl (fun K hK => ?_) ?_
          · go_simp
            refine Calls.mono (HT.out _ ?_) ?_
            · exact hHeld
            clear hHeld
            rintro e va ⟨p1, q1, rfl, hbb, hbx⟩
            refine hK.out _ _ ?_ (fun hHeld => ?_)
            · exact hbx
            clear hK K
            try simp only [List.getElem_toArray, List.getElem_cons_succ, List.getElem_cons_zero, Act.put, List.setIfInBounds_toArray, List.set_cons_zero, List.set_cons_succ]
            have y8 := cell_below hbb (show (wr.drew.alloc (.cells #[.slice none 0 0, .int .i64 0] 46)).cell? ⟨wr.heap.size, 0, none⟩ = some (.slice none 0 0) from cell_new _ _ _ rfl rfl) (by simp)
            have y9 := cell_below hbb (show (wr.drew.alloc (.cells #[.slice none 0 0, .int .i64 0] 46)).cell? ⟨wr.heap.size, 1, none⟩ = some (.int .i64 0) from cell_new _ _ _ rfl rfl) (by simp)
            have z8 := fro_below hbb (show (wr.drew.alloc (.cells #[.slice none 0 0, .int .i64 0] 46)).frozen? ⟨wr.heap.size, 0, none⟩ = false from fro_new _ _ _ rfl) (by simp)
            have z9 := fro_below hbb (show (wr.drew.alloc (.cells #[.slice none 0 0, .int .i64 0] 46)).frozen? ⟨wr.heap.size, 1, none⟩ = false from fro_new _ _ _ rfl) (by simp)
            refine wpAnyH_take (i := 8) (v := ?_) rfl (by kernel_rfl) (by kernel_rfl) (by kernel_rfl) (fun _ _ _ h => h) (Or.inl ⟨by rfl, ?_⟩) (by assumption) ?_
            rotate_left
            · intro w9 hSw; (try dsimp only at hSw); go_simp; try with_reducible rfl
            try simp only [List.getElem_toArray, List.getElem_cons_succ, List.getElem_cons_zero, Act.put, List.setIfInBounds_toArray, List.set_cons_zero, List.set_cons_succ]
            refine wpAnyH_take (i := 9) (v := ?_) rfl (by kernel_rfl) (by kernel_rfl) (by kernel_rfl) (fun _ _ _ h => h) (Or.inl ⟨by rfl, ?_⟩) (by assumption) ?_
            rotate_left
            · intro w9 hSw; (try dsimp only at hSw); go_simp; try with_reducible rfl
            try simp only [List.getElem_toArray, List.getElem_cons_succ, List.getElem_cons_zero, Act.put, List.setIfInBounds_toArray, List.set_cons_zero, List.set_cons_succ]
            refine wpAnyH_take (i := 10) (v := ?_) rfl (by kernel_rfl) (by kernel_rfl) (by kernel_rfl) (fun _ _ _ h => h) (Or.inl ⟨by rfl, ?_⟩) (by assumption) ?_
            rotate_left
            · intro w9 hSw; (try dsimp only at hSw); go_simp; try with_reducible rfl
            try simp only [List.getElem_toArray, List.getElem_cons_succ, List.getElem_cons_zero, Act.put, List.setIfInBounds_toArray, List.set_cons_zero, List.set_cons_succ]
            refine wpAnyH_take (i := 11) (v := ?_) rfl (by kernel_rfl) (by kernel_rfl) (by kernel_rfl) (fun _ _ _ h => h) (Or.inl ⟨by rfl, ?_⟩) (by assumption) ?_
            rotate_left
            · intro w9 hSw; (try dsimp only at hSw); go_simp; try with_reducible rfl
            try simp only [List.getElem_toArray, List.getElem_cons_succ, List.getElem_cons_zero, Act.put, List.setIfInBounds_toArray, List.set_cons_zero, List.set_cons_succ]
            refine wpAnyH_ready (rs := [13]) (by kernel_rfl) (by simp) ?_
            refine AllReadyH.cons rfl (fun K hK => ?_) ?_
            · go_simp
              refine hK.out _ _ ?_ (fun hHeld => ?_)
              · exact ⟨cell_set (cell_set hbx.1 (by first | (simp; done) | (simp; omega) | omega) _) (by first | (simp; done) | (simp; omega) | omega) _, cell_set (cell_set hbx.2.1 (by first | (simp; done) | (simp; omega) | omega) _) (by first | (simp; done) | (simp; omega) | omega) _, cell_set (cell_set hbx.2.2.1 (by first | (simp; done) | (simp; omega) | omega) _) (by first | (simp; done) | (simp; omega) | omega) _, cell_set (cell_set hbx.2.2.2.1 (by first | (simp; done) | (simp; omega) | omega) _) (by first | (simp; done) | (simp; omega) | omega) _, (hbx.2.2.2.2.setCell (by simp) _).setCell (by simp) _⟩
              clear hK K
              try simp only [List.getElem_toArray, List.getElem_cons_succ, List.getElem_cons_zero, Act.put, List.setIfInBounds_toArray, List.set_cons_zero, List.set_cons_succ]
              refine wpAnyH_take (i := 14) (v := ?_) rfl (by kernel_rfl) (by kernel_rfl) (by kernel_rfl) (fun _ _ _ h => h) (Or.inl ⟨by rfl, ?_⟩) (by assumption) ?_
              rotate_left
              · intro w9 hSw; (try dsimp only at hSw); go_simp; try with_reducible rfl
              try simp only [List.getElem_toArray, List.getElem_cons_succ, List.getElem_cons_zero, Act.put, List.setIfInBounds_toArray, List.set_cons_zero, List.set_cons_succ]
              refine wpAnyH_take (i := 15) (v := ?_) rfl (by kernel_rfl) (by kernel_rfl) (by kernel_rfl) (fun _ _ _ h => h) (Or.inl ⟨by rfl, ?_⟩) (by assumption) ?_
              rotate_left
              · intro w9 hSw; (try dsimp only at hSw); go_simp; try with_reducible rfl
              try simp only [List.getElem_toArray, List.getElem_cons_succ, List.getElem_cons_zero, Act.put, List.setIfInBounds_toArray, List.set_cons_zero, List.set_cons_succ]
              refine wpAnyH_done (by kernel_rfl) ?_ _
              refine NoPanic.normal ?_
              have HN5 := Lib.hid (show ((va.setCell ⟨wr.heap.size, 0, none⟩ (.slice p1 0 q1)).setCell ⟨wr.heap.size, 1, none⟩ (.int .i64 0)).cell? ⟨wr.heap.size, 0, none⟩ = some (.slice p1 0 q1) ∧ ((va.setCell ⟨wr.heap.size, 0, none⟩ (.slice p1 0 q1)).setCell ⟨wr.heap.size, 1, none⟩ (.int .i64 0)).cell? ⟨wr.heap.size, 1, none⟩ = some (.int .i64 0) from ⟨(World.cell?_setCell_other _ _ _ _ (by simp)).trans (World.cell?_setCell_same _ _ _ y8), World.cell?_setCell_same _ _ _ ((World.cell?_setCell_other _ _ _ _ (by simp)).trans y9)⟩)
              have HB6 := Lib.hid hHeld.2.2.2.2
              have hNB : wr.heap.size ≤ wr.heap.size ∧ wr.heap.size < ((va.setCell ⟨wr.heap.size, 0, none⟩ (.slice p1 0 q1)).setCell ⟨wr.heap.size, 1, none⟩ (.int .i64 0)).heap.size := ⟨by have := hbx.2.2.2.2.size; omega, by first | (simp; done) | (have := hbb.size; simp at this ⊢; omega)⟩
              clear hHeld hbx hbb HT y8 y9 z8 z9
              generalize ((va.setCell ⟨wr.heap.size, 0, none⟩ (.slice p1 0 q1)).setCell ⟨wr.heap.size, 1, none⟩ (.int .i64 0)) = w5 at *
              have n0 := HN5.out.1
              have n1 := HN5.out.2
              have hs5 := HB6.out.size
              obtain ⟨u0, u1, u2, u3, u4, u5, u6, u7⟩ := (show w5.cell? ⟨w.heap.size, 0, none⟩ = some (.slice (some ⟨bl, off, none⟩) rows.length c) ∧ w5.cell? ⟨w.heap.size, 1, none⟩ = some (.slice (some ⟨lb, lo, none⟩) zs.length c') ∧ w5.cell? ⟨w.heap.size + 2, 0, none⟩ = some (.slice none 0 0) ∧ w5.cell? ⟨w.heap.size + 2, 1, none⟩ = some (.int .i64 0) ∧ w5.frozen? ⟨w.heap.size + 2, 0, none⟩ = false ∧ w5.frozen? ⟨w.heap.size + 2, 1, none⟩ = false ∧ w5.frozen? ⟨w.heap.size + 1, 0, none⟩ = false ∧ w5.frozen? ⟨w.heap.size + 1, 1, none⟩ = false from ⟨cell_below HB6.out HX.out.1 (by omega), cell_below HB6.out HX.out.2.1 (by omega), cell_below HB6.out HX.out.2.2.1 (by omega), cell_below HB6.out HX.out.2.2.2.1 (by omega), fro_below HB6.out HX.out.2.2.2.2.1 (by omega), fro_below HB6.out HX.out.2.2.2.2.2.1 (by omega), fro_below HB6.out HX.out.2.2.2.2.2.2.1 (by omega), fro_below HB6.out HX.out.2.2.2.2.2.2.2 (by omega)⟩)
              have HX5 := Lib.hid (And.intro u0 (And.intro u1 (And.intro u2 (And.intro u3 (And.intro u4 (And.intro u5 (And.intro u6 u7)))))))
              have HBW := Lib.hid (HBl.out.trans (HB6.out.mono (by have := HBl.out.size; omega)))
              have hbr := HBl.out.size
              have HT5 := Lib.hid (HTR.out.below (by omega) HB6.out)
              have HC5 := Lib.hid (HCG.out.trans (Chg.of HB6.out tv))
              clear u0 u1 u6 u7
              go_wp2_with fail
              refine bodyPost_ret (v := .tuple #[.agg #[.slice none 0 0, .int .i64 0], .int .i64 0, .bool false]) (by simp [results, Try.results142, go_sem, u2, u3]) rfl ⟨tv, (HBW.out.setCell (by simp; omega) _).setCell (by simp; omega) _, (HC5.out.set (by first | (simp; done) | (simp; omega)) _).set (by first | (simp; done) | (simp; omega)) _, (fun h => by rw [HNT.out] at h; cases h), fun _ => rfl⟩
            exact AllReadyH.nil
          exact AllReadyH.nil
        exact AllReadyH.nil
      cases hsm : same rows zs (inn rows zs st k) k
      · obtain ⟨bl, off, rp, rq, rfl, hbl, hc, hpq, hrow⟩ := Hhr.out.at hlt
        obtain ⟨lb, lo, rfl, hll, hlc⟩ := Hhz.out.at (k := k) (by have := HF.out.both; omega)
        have hbel := HBl.out
        have HROW := Lib.hid (hrow.below hbel)
        replace hc := cell_below hbel hc hbl
        replace hlc := cell_below hbel hlc hll
        have xl := HX.out.2.1
        obtain ⟨y0, y1⟩ := hpc
        have HPR := Lib.hid hpr
        have HSB := Lib.hid (step_ok HF.out HPK.out HLE.out hlt)
        have HST := Lib.hid (step_p rows zs st k)
        have HL4 := Lib.hid (st_fit HF.out HPK.out HLE.out k hlt)
        have s16 := HF.out.few
        have i1 : (0 : Int) ≤ (k : Int) := by omega
        have i2 : (k : Int) < (rows.length : Int) := by omega
        have i3 : (k : Int) < (zs.length : Int) := by have := HF.out.both; omega
        clear hrow hpq hpr hpo hbel
        have HOK2 := Lib.hid (show ∀ q, q < k + 1 → okP (inn rows zs st (q + 1)) = true from fun q hq => by
          by_cases e : q = k
          · rw [e]; exact hok
          · exact HOK.out q (by omega))
        have HCN := Lib.hid (show cn rows zs st (k + 1) = cn rows zs st k + 1 from (inn_turn hsm).2)
        have HCH := Lib.hid (show decide (side (inn rows zs st k).p.1 (inn rows zs st k).p.2 (rows.getD k []) ≠ zs.getD k 0) = true from by rw [step_ch, hsm]; rfl)
        have HSB2 := Lib.hid (HSB.out.trans hok)
        have HTN := Lib.hid (show (inn rows zs st (k + 1)).tr = (inn rows zs st k).tr ++ [(k : Int)] from by rw [(inn_turn hsm).1, show (turned rows zs (inn rows zs st k) k).tr = (inn rows zs st k).tr ++ [(k : Int)] from rfl])
        clear hok hsm HSB
        have htl8 : (inn rows zs st k).tr.length ≤ 520 := by have := HLT.out; omega
        clear htrl
        generalize inn rows zs st k = sn at *
        generalize cn rows zs st k = cnt at *
        obtain ⟨⟨ws, b⟩, smi, str, spl⟩ := sn
        dsimp only at *
        generalize rows.getD k [] = r at *
        generalize zs.getD k 0 = y at *
        have HT := Lib.hid (show ∀ wa : World, (wa.cell? ⟨w.heap.size, 1, none⟩ = some (.slice (some ⟨lb, lo, none⟩) zs.length c') ∧ wa.cell? ⟨lb, lo + k, none⟩ = some (.int .i64 y) ∧ wa.cell? ⟨w.heap.size + 1, 0, none⟩ = some (.slice pv ws.length qv) ∧ wa.cell? ⟨w.heap.size + 1, 1, none⟩ = some (.int .i64 b) ∧ Below wr.heap.size wr wa) → Calls Try.prog 48 #[.agg #[.slice pv ws.length qv, .int .i64 b], .slice rp r.length rq, .int .i64 y] wa (fun e w' => ∃ (p1 : Option Addr) (q1 : Nat), e = .returned (.tuple #[.agg #[.slice p1 (stW ws b r y).length q1, .int .i64 (stV ws b r y)], .bool true, .bool true]) ∧ OwnI wa.heap.size w'.heap.size w' (.slice p1 (stW ws b r y).length q1) (stW ws b r y) ∧ Below wa.heap.size wa w' ∧ w'.cell? ⟨w.heap.size, 1, none⟩ = some (.slice (some ⟨lb, lo, none⟩) zs.length c') ∧ w'.cell? ⟨lb, lo + k, none⟩ = some (.int .i64 y) ∧ w'.cell? ⟨w.heap.size + 1, 0, none⟩ = some (.slice pv ws.length qv) ∧ w'.cell? ⟨w.heap.size + 1, 1, none⟩ = some (.int .i64 b) ∧ Below wr.heap.size wr w') from fun wa hS => by
          refine (stepperc.impl_yes pv ws qv b rp r rq y wa (HPR.out.below hS.2.2.2.2) (HROW.out.below hS.2.2.2.2) (by have := HL4.out.le; omega) (by have := HL4.out.len; have := HL4.out.le; omega) HSB2.out).mono ?_
          rintro e w' ⟨v', rfl, ho, hb⟩
          obtain ⟨p1, q1, rfl, _, _, _⟩ := ho.slice
          exact ⟨p1, q1, by rw [HCH.out], ho, hb, cell_below hb hS.1 (by have := hS.2.2.2.2.size; omega), cell_below hb hS.2.1 (by have := hS.2.2.2.2.size; omega), cell_below hb hS.2.2.1 (by have := hS.2.2.2.2.size; omega), cell_below hb hS.2.2.2.1 (by have := hS.2.2.2.2.size; omega), hS.2.2.2.2.trans (hb.mono hS.2.2.2.2.size)⟩)
        go_wp2_with fail
        refine wp_region_noPanic ?_
        refine wp_region_held_drew (S := fun w' => w'.cell? ⟨w.heap.size, 1, none⟩ = some (.slice (some ⟨lb, lo, none⟩) zs.length c') ∧ w'.cell? ⟨lb, lo + k, none⟩ = some (.int .i64 y) ∧ w'.cell? ⟨w.heap.size + 1, 0, none⟩ = some (.slice pv ws.length qv) ∧ w'.cell? ⟨w.heap.size + 1, 1, none⟩ = some (.int .i64 b) ∧ Below wr.heap.size wr w') (by kernel_rfl) ?_ (fun hHeld => ?_)
        · exact ⟨xl, hlc, y0, y1, (Below.refl _ _).drew⟩
        refine wpAnyH_take (i := 0) (v := ?_) rfl (by kernel_rfl) (by kernel_rfl) (by kernel_rfl) (fun _ _ _ h => h) (Or.inl ⟨by rfl, ?_⟩) (by assumption) ?_
        rotate_left
        · intro w9 hSw; (try dsimp only at hSw); go_simp; try with_reducible rfl
        try simp only [List.getElem_toArray, List.getElem_cons_succ, List.getElem_cons_zero, Act.put, List.setIfInBounds_toArray, List.set_cons_zero, List.set_cons_succ]
        refine wpAnyH_take (i := 1) (v := ?_) rfl (by kernel_rfl) (by kernel_rfl) (by kernel_rfl) (fun _ _ _ h => h) (Or.inl ⟨by rfl, ?_⟩) (by assumption) ?_
        rotate_left
        · intro w9 hSw; (try dsimp only at hSw); go_simp; try with_reducible rfl
        try simp only [List.getElem_toArray, List.getElem_cons_succ, List.getElem_cons_zero, Act.put, List.setIfInBounds_toArray, List.set_cons_zero, List.set_cons_succ]
        refine wpAnyH_take (i := 2) (v := ?_) rfl (by kernel_rfl) (by kernel_rfl) (by kernel_rfl) (fun _ _ _ h => h) (Or.inl ⟨by rfl, ?_⟩) (by assumption) ?_
        rotate_left
        · intro w9 hSw; (try dsimp only at hSw); go_simp; try with_reducible rfl
        try simp only [List.getElem_toArray, List.getElem_cons_succ, List.getElem_cons_zero, Act.put, List.setIfInBounds_toArray, List.set_cons_zero, List.set_cons_succ]
        refine wpAnyH_take (i := 3) (v := ?_) rfl (by kernel_rfl) (by kernel_rfl) (by kernel_rfl) (fun _ _ _ h => h) (Or.inl ⟨by rfl, ?_⟩) (by assumption) ?_
        rotate_left
        · intro w9 hSw; (try dsimp only at hSw); go_simp; try with_reducible rfl
        try simp only [List.getElem_toArray, List.getElem_cons_succ, List.getElem_cons_zero, Act.put, List.setIfInBounds_toArray, List.set_cons_zero, List.set_cons_succ]
        refine wpAnyH_take (i := 4) (v := ?_) rfl (by kernel_rfl) (by kernel_rfl) (by kernel_rfl) (fun _ _ _ h => h) (Or.inl ⟨by rfl, ?_⟩) (by assumption) ?_
        rotate_left
        · intro w9 hSw; (try dsimp only at hSw); go_simp; try with_reducible rfl
        try simp only [List.getElem_toArray, List.getElem_cons_succ, List.getElem_cons_zero, Act.put, List.setIfInBounds_toArray, List.set_cons_zero, List.set_cons_succ]
        refine wpAnyH_take (i := 5) (v := ?_) rfl (by kernel_rfl) (by kernel_rfl) (by kernel_rfl) (fun _ _ _ h => h) (Or.inl ⟨by rfl, ?_⟩) (by assumption) ?_
        rotate_left
        · intro w9 hSw; (try dsimp only at hSw); go_simp; try with_reducible rfl
        try simp only [List.getElem_toArray, List.getElem_cons_succ, List.getElem_cons_zero, Act.put, List.setIfInBounds_toArray, List.set_cons_zero, List.set_cons_succ]
        refine wpAnyH_take (i := 6) (v := ?_) rfl (by kernel_rfl) (by kernel_rfl) (by kernel_rfl) (fun _ _ _ h => h) (Or.inl ⟨by rfl, ?_⟩) (by assumption) ?_
        rotate_left
        · intro w9 hSw; (try dsimp only at hSw); go_simp; try with_reducible rfl
        try simp only [List.getElem_toArray, List.getElem_cons_succ, List.getElem_cons_zero, Act.put, List.setIfInBounds_toArray, List.set_cons_zero, List.set_cons_succ]
        refine wpAnyH_ready (rs := [7, 12]) (by kernel_rfl) (by simp) ?_
        refine AllReadyH.cons rfl (fun K hK => ?_) ?_
        · go_simp
          refine Calls.mono (HT.out _ ?_) ?_
          · exact hHeld
          clear hHeld
          rintro e va ⟨p1, q1, rfl, hoN, hbb, hbx⟩
          refine hK.out _ _ ?_ (fun hHeld => ?_)
          · exact hbx
          clear hK K
          try simp only [List.getElem_toArray, List.getElem_cons_succ, List.getElem_cons_zero, Act.put, List.setIfInBounds_toArray, List.set_cons_zero, List.set_cons_succ]
          refine wpAnyH_take (i := 8) (v := ?_) rfl (by kernel_rfl) (by kernel_rfl) (by kernel_rfl) (fun _ _ _ h => h) (Or.inl ⟨by rfl, ?_⟩) (by assumption) ?_
          rotate_left
          · intro w9 hSw; (try dsimp only at hSw); go_simp; try with_reducible rfl
          try simp only [List.getElem_toArray, List.getElem_cons_succ, List.getElem_cons_zero, Act.put, List.setIfInBounds_toArray, List.set_cons_zero, List.set_cons_succ]
          refine wpAnyH_take (i := 9) (v := ?_) rfl (by kernel_rfl) (by kernel_rfl) (by kernel_rfl) (fun _ _ _ h => h) (Or.inl ⟨by rfl, ?_⟩) (by assumption) ?_
          rotate_left
          · intro w9 hSw; (try dsimp only at hSw); go_simp; try with_reducible rfl
          try simp only [List.getElem_toArray, List.getElem_cons_succ, List.getElem_cons_zero, Act.put, List.setIfInBounds_toArray, List.set_cons_zero, List.set_cons_succ]
          refine wpAnyH_take (i := 10) (v := ?_) rfl (by kernel_rfl) (by kernel_rfl) (by kernel_rfl) (fun _ _ _ h => h) (Or.inl ⟨by rfl, ?_⟩) (by assumption) ?_
          rotate_left
          · intro w9 hSw; (try dsimp only at hSw); go_simp; try with_reducible rfl
          try simp only [List.getElem_toArray, List.getElem_cons_succ, List.getElem_cons_zero, Act.put, List.setIfInBounds_toArray, List.set_cons_zero, List.set_cons_succ]
          refine wpAnyH_take (i := 11) (v := ?_) rfl (by kernel_rfl) (by kernel_rfl) (by kernel_rfl) (fun _ _ _ h => h) (Or.inl ⟨by rfl, ?_⟩) (by assumption) ?_
          rotate_left
          · intro w9 hSw; (try dsimp only at hSw); go_simp; try with_reducible rfl
          try simp only [List.getElem_toArray, List.getElem_cons_succ, List.getElem_cons_zero, Act.put, List.setIfInBounds_toArray, List.set_cons_zero, List.set_cons_succ]
          refine wpAnyH_ready (rs := [12]) (by kernel_rfl) (by simp) ?_
          refine AllReadyH.cons rfl (fun K hK => ?_) ?_
          · go_simp
            refine hK.out _ _ ?_ (fun hHeld => ?_)
            · exact ⟨cell_old _ hbx.1, cell_old _ hbx.2.1, cell_old _ hbx.2.2.1, cell_old _ hbx.2.2.2.1, hbx.2.2.2.2.alloc hbx.2.2.2.2.size _⟩
            clear hK K
            try simp only [List.getElem_toArray, List.getElem_cons_succ, List.getElem_cons_zero, Act.put, List.setIfInBounds_toArray, List.set_cons_zero, List.set_cons_succ]
            refine wpAnyH_ready (rs := [13]) (by kernel_rfl) (by simp) ?_
            refine AllReadyH.cons rfl (fun K hK => ?_) ?_
            · go_simp
              refine hK.out _ _ ?_ (fun hHeld => ?_)
              · exact ⟨cell_old _ hbx.1, cell_old _ hbx.2.1, cell_old _ hbx.2.2.1, cell_old _ hbx.2.2.2.1, hbx.2.2.2.2.alloc hbx.2.2.2.2.size _⟩
              clear hK K
              try simp only [List.getElem_toArray, List.getElem_cons_succ, List.getElem_cons_zero, Act.put, List.setIfInBounds_toArray, List.set_cons_zero, List.set_cons_succ]
              refine wpAnyH_take (i := 14) (v := ?_) rfl (by kernel_rfl) (by kernel_rfl) (by kernel_rfl) (fun _ _ _ h => h) (Or.inl ⟨by rfl, ?_⟩) (by assumption) ?_
              rotate_left
              · intro w9 hSw; (try dsimp only at hSw); go_simp; try with_reducible rfl
              try simp only [List.getElem_toArray, List.getElem_cons_succ, List.getElem_cons_zero, Act.put, List.setIfInBounds_toArray, List.set_cons_zero, List.set_cons_succ]
              refine wpAnyH_take (i := 15) (v := ?_) rfl (by kernel_rfl) (by kernel_rfl) (by kernel_rfl) (fun _ _ _ h => h) (Or.inl ⟨by rfl, ?_⟩) (by assumption) ?_
              rotate_left
              · intro w9 hSw; (try dsimp only at hSw); go_simp; try with_reducible rfl
              try simp only [List.getElem_toArray, List.getElem_cons_succ, List.getElem_cons_zero, Act.put, List.setIfInBounds_toArray, List.set_cons_zero, List.set_cons_succ]
              refine wpAnyH_done (by kernel_rfl) ?_ _
              refine NoPanic.normal ?_
              have HN5 := Lib.hid (show (va.alloc (.cells #[.slice p1 (stW ws b r y).length q1, .int .i64 (stV ws b r y)] 46)).cell? ⟨va.heap.size, 0, none⟩ = some (.slice p1 (stW ws b r y).length q1) ∧ (va.alloc (.cells #[.slice p1 (stW ws b r y).length q1, .int .i64 (stV ws b r y)] 46)).cell? ⟨va.heap.size, 1, none⟩ = some (.int .i64 (stV ws b r y)) from ⟨cell_new _ _ _ rfl rfl, cell_new _ _ _ rfl rfl⟩)
              have HB6 := Lib.hid hHeld.2.2.2.2
              have hNB : wr.heap.size ≤ va.heap.size ∧ va.heap.size < (va.alloc (.cells #[.slice p1 (stW ws b r y).length q1, .int .i64 (stV ws b r y)] 46)).heap.size := ⟨by have := hbx.2.2.2.2.size; omega, by first | (simp; done) | (have := hbb.size; simp at this ⊢; omega)⟩
              have HON := Lib.hid (show OwnI wr.heap.size (va.alloc (.cells #[.slice p1 (stW ws b r y).length q1, .int .i64 (stV ws b r y)] 46)).heap.size (va.alloc (.cells #[.slice p1 (stW ws b r y).length q1, .int .i64 (stV ws b r y)] 46)) (.slice p1 (stW ws b r y).length q1) (stW ws b r y) from ((hoN.below (below_alloc va _)).mono (show wr.heap.size ≤ wr.drew.heap.size from Nat.le_refl _) (by simp)))
              clear hHeld hbx hbb HT hoN
              generalize (va.alloc (.cells #[.slice p1 (stW ws b r y).length q1, .int .i64 (stV ws b r y)] 46)) = w5 at *
              generalize va.heap.size = NB at *
              have n0 := HN5.out.1
              have n1 := HN5.out.2
              have hs5 := HB6.out.size
              obtain ⟨u0, u1, u2, u3, u4, u5, u6, u7⟩ := (show w5.cell? ⟨w.heap.size, 0, none⟩ = some (.slice (some ⟨bl, off, none⟩) rows.length c) ∧ w5.cell? ⟨w.heap.size, 1, none⟩ = some (.slice (some ⟨lb, lo, none⟩) zs.length c') ∧ w5.cell? ⟨w.heap.size + 2, 0, none⟩ = some (.slice none 0 0) ∧ w5.cell? ⟨w.heap.size + 2, 1, none⟩ = some (.int .i64 0) ∧ w5.frozen? ⟨w.heap.size + 2, 0, none⟩ = false ∧ w5.frozen? ⟨w.heap.size + 2, 1, none⟩ = false ∧ w5.frozen? ⟨w.heap.size + 1, 0, none⟩ = false ∧ w5.frozen? ⟨w.heap.size + 1, 1, none⟩ = false from ⟨cell_below HB6.out HX.out.1 (by omega), cell_below HB6.out HX.out.2.1 (by omega), cell_below HB6.out HX.out.2.2.1 (by omega), cell_below HB6.out HX.out.2.2.2.1 (by omega), fro_below HB6.out HX.out.2.2.2.2.1 (by omega), fro_below HB6.out HX.out.2.2.2.2.2.1 (by omega), fro_below HB6.out HX.out.2.2.2.2.2.2.1 (by omega), fro_below HB6.out HX.out.2.2.2.2.2.2.2 (by omega)⟩)
              have HX5 := Lib.hid (And.intro u0 (And.intro u1 (And.intro u2 (And.intro u3 (And.intro u4 (And.intro u5 (And.intro u6 u7)))))))
              have HBW := Lib.hid (HBl.out.trans (HB6.out.mono (by have := HBl.out.size; omega)))
              have hbr := HBl.out.size
              have HT5 := Lib.hid (HTR.out.below (by omega) HB6.out)
              have HC5 := Lib.hid (HCG.out.trans (Chg.of HB6.out tv))
              have q0 := cell_below HB6.out y0 (by omega)
              have q1' := cell_below HB6.out y1 (by omega)
              clear u0 u1 u2 u3 u4 u5
              generalize stW ws b r y = zz at *
              generalize stV ws b r y = bb at *
              have HREL2 := Lib.hid (show (((w5.setCell ⟨w.heap.size + 1, 0, none⟩ (.slice p1 zz.length q1)).setCell ⟨w.heap.size + 1, 1, none⟩ (.int .i64 bb)).cell? ⟨w.heap.size + 1, 0, none⟩ = some (.slice p1 zz.length q1) ∧ ((w5.setCell ⟨w.heap.size + 1, 0, none⟩ (.slice p1 zz.length q1)).setCell ⟨w.heap.size + 1, 1, none⟩ (.int .i64 bb)).cell? ⟨w.heap.size + 1, 1, none⟩ = some (.int .i64 bb)) ∧ OwnI (w.heap.size + 3) ((w5.setCell ⟨w.heap.size + 1, 0, none⟩ (.slice p1 zz.length q1)).setCell ⟨w.heap.size + 1, 1, none⟩ (.int .i64 bb)).heap.size ((w5.setCell ⟨w.heap.size + 1, 0, none⟩ (.slice p1 zz.length q1)).setCell ⟨w.heap.size + 1, 1, none⟩ (.int .i64 bb)) (.slice p1 zz.length q1) zz from ⟨⟨(World.cell?_setCell_other _ _ _ _ (by simp)).trans (World.cell?_setCell_same _ _ _ q0), World.cell?_setCell_same _ _ _ ((World.cell?_setCell_other _ _ _ _ (by simp)).trans q1')⟩, by simp only [size_set]; exact ((HON.out.set (by simp; omega) _).set (by simp; omega) _).mono (by omega) (Nat.le_refl _)⟩)
              have HX6 := Lib.hid (show ((w5.setCell ⟨w.heap.size + 1, 0, none⟩ (.slice p1 zz.length q1)).setCell ⟨w.heap.size + 1, 1, none⟩ (.int .i64 bb)).cell? ⟨w.heap.size, 0, none⟩ = some (.slice (some ⟨bl, off, none⟩) rows.length c) ∧ ((w5.setCell ⟨w.heap.size + 1, 0, none⟩ (.slice p1 zz.length q1)).setCell ⟨w.heap.size + 1, 1, none⟩ (.int .i64 bb)).cell? ⟨w.heap.size, 1, none⟩ = some (.slice (some ⟨lb, lo, none⟩) zs.length c') ∧ ((w5.setCell ⟨w.heap.size + 1, 0, none⟩ (.slice p1 zz.length q1)).setCell ⟨w.heap.size + 1, 1, none⟩ (.int .i64 bb)).cell? ⟨w.heap.size + 2, 0, none⟩ = some (.slice none 0 0) ∧ ((w5.setCell ⟨w.heap.size + 1, 0, none⟩ (.slice p1 zz.length q1)).setCell ⟨w.heap.size + 1, 1, none⟩ (.int .i64 bb)).cell? ⟨w.heap.size + 2, 1, none⟩ = some (.int .i64 0) ∧ ((w5.setCell ⟨w.heap.size + 1, 0, none⟩ (.slice p1 zz.length q1)).setCell ⟨w.heap.size + 1, 1, none⟩ (.int .i64 bb)).frozen? ⟨w.heap.size + 2, 0, none⟩ = false ∧ ((w5.setCell ⟨w.heap.size + 1, 0, none⟩ (.slice p1 zz.length q1)).setCell ⟨w.heap.size + 1, 1, none⟩ (.int .i64 bb)).frozen? ⟨w.heap.size + 2, 1, none⟩ = false ∧ ((w5.setCell ⟨w.heap.size + 1, 0, none⟩ (.slice p1 zz.length q1)).setCell ⟨w.heap.size + 1, 1, none⟩ (.int .i64 bb)).frozen? ⟨w.heap.size + 1, 0, none⟩ = false ∧ ((w5.setCell ⟨w.heap.size + 1, 0, none⟩ (.slice p1 zz.length q1)).setCell ⟨w.heap.size + 1, 1, none⟩ (.int .i64 bb)).frozen? ⟨w.heap.size + 1, 1, none⟩ = false from ⟨cell_set (cell_set HX5.out.1 (by first | (simp; done) | (simp; omega) | omega) _) (by first | (simp; done) | (simp; omega) | omega) _, cell_set (cell_set HX5.out.2.1 (by first | (simp; done) | (simp; omega) | omega) _) (by first | (simp; done) | (simp; omega) | omega) _, cell_set (cell_set HX5.out.2.2.1 (by first | (simp; done) | (simp; omega) | omega) _) (by first | (simp; done) | (simp; omega) | omega) _, cell_set (cell_set HX5.out.2.2.2.1 (by first | (simp; done) | (simp; omega) | omega) _) (by first | (simp; done) | (simp; omega) | omega) _, by rw [World.frozen?_setCell, World.frozen?_setCell]; exact HX5.out.2.2.2.2.1, by rw [World.frozen?_setCell, World.frozen?_setCell]; exact HX5.out.2.2.2.2.2.1, by rw [World.frozen?_setCell, World.frozen?_setCell]; exact HX5.out.2.2.2.2.2.2.1, by rw [World.frozen?_setCell, World.frozen?_setCell]; exact HX5.out.2.2.2.2.2.2.2⟩)
              have HBW6 := Lib.hid (show Below b0.heap.size b0 ((w5.setCell ⟨w.heap.size + 1, 0, none⟩ (.slice p1 zz.length q1)).setCell ⟨w.heap.size + 1, 1, none⟩ (.int .i64 bb)) from (HBW.out.setCell (by simp; omega) _).setCell (by simp; omega) _)
              have HT6 := Lib.hid (show Tr K b0.heap.size ((w5.setCell ⟨w.heap.size + 1, 0, none⟩ (.slice p1 zz.length q1)).setCell ⟨w.heap.size + 1, 1, none⟩ (.int .i64 bb)) tv str from (HT5.out.set (by simp; omega) (fun e => (HNB.out _ e).2.1 rfl) _).set (by simp; omega) (fun e => (HNB.out _ e).2.1 rfl) _)
              have HC6 := Lib.hid (show Chg K w ((w5.setCell ⟨w.heap.size + 1, 0, none⟩ (.slice p1 zz.length q1)).setCell ⟨w.heap.size + 1, 1, none⟩ (.int .i64 bb)) tv0 tv from (HC5.out.set (by first | (simp; done) | (simp; omega)) _).set (by first | (simp; done) | (simp; omega)) _)
              have HPN := Lib.hid (show ∀ g, (Value.slice p1 zz.length q1).ownBlock = some g → wr.heap.size ≤ g from fun g e => (HON.out.lt e).1)
              have HS6 := Lib.hid (show w.heap.size + 2 < ((w5.setCell ⟨w.heap.size + 1, 0, none⟩ (.slice p1 zz.length q1)).setCell ⟨w.heap.size + 1, 1, none⟩ (.int .i64 bb)).heap.size from by rw [size_set, size_set]; omega)
              have HSP := Lib.hid (show (inn rows zs st (k + 1)).p = (zz, bb) from HST.out)
              have n2 : ((w5.setCell ⟨w.heap.size + 1, 0, none⟩ (.slice p1 zz.length q1)).setCell ⟨w.heap.size + 1, 1, none⟩ (.int .i64 bb)).cell? ⟨NB, 0, none⟩ = some (.slice p1 zz.length q1) := cell_set (cell_set n0 (by first | (simp; done) | (simp; omega)) _) (by first | (simp; done) | (simp; omega)) _
              have n3 : ((w5.setCell ⟨w.heap.size + 1, 0, none⟩ (.slice p1 zz.length q1)).setCell ⟨w.heap.size + 1, 1, none⟩ (.int .i64 bb)).cell? ⟨NB, 1, none⟩ = some (.int .i64 bb) := cell_set (cell_set n1 (by first | (simp; done) | (simp; omega)) _) (by first | (simp; done) | (simp; omega)) _
              have e5 : IntKind.i64.wrap ((cnt : Int) + 1) = ((cnt + 1 : Nat) : Int) := by rw [IntWalk.i64_in _ (by have := HF.out.few; omega)]; omega
              go_wp2_with fail
              refine (visit K b0.heap.size _ p1 zz.length q1 bb tv str ((w5.setCell ⟨w.heap.size + 1, 0, none⟩ (.slice p1 zz.length q1)).setCell ⟨w.heap.size + 1, 1, none⟩ (.int .i64 bb)) HT6.out (by rw [size_set, size_set]; omega) hKl (by omega)).mono ?_
              rintro e w7 ⟨tv', rfl, hT7, hC7, hB7⟩
              have HT7 := Lib.hid hT7
              have HC7 := Lib.hid hC7
              have hs7 : w.heap.size + 2 < ((w5.setCell ⟨w.heap.size + 1, 0, none⟩ (.slice p1 zz.length q1)).setCell ⟨w.heap.size + 1, 1, none⟩ (.int .i64 bb)).heap.size := HS6.out
              have hs8 := hC7.1
              have hsW : wr.heap.size ≤ w7.heap.size := by have h1 := HB6.out.size; rw [size_set, size_set] at hs8; omega
              have HBW7 := Lib.hid (HBW6.out.trans hB7)
              clear hT7 hC7 hB7
              have HREL3 := Lib.hid (show (w7.cell? ⟨w.heap.size + 1, 0, none⟩ = some (.slice p1 zz.length q1) ∧ w7.cell? ⟨w.heap.size + 1, 1, none⟩ = some (.int .i64 bb)) ∧ OwnI (w.heap.size + 3) w7.heap.size w7 (.slice p1 zz.length q1) zz from ⟨⟨HC7.out.cell (by omega) (by omega) (fun e => (HNB.out _ e).2.1 rfl) HREL2.out.1.1, HC7.out.cell (by omega) (by omega) (fun e => (HNB.out _ e).2.1 rfl) HREL2.out.1.2⟩, (HC7.out.own HREL2.out.2 (fun g e => ⟨by have := HPN.out g e; omega, fun e2 => by have h1 := HPN.out g e; have h2 := (HTR.out.2.2.1.lt g e2).2; omega⟩)).mono (Nat.le_refl _) hs8⟩)
              have HX7 := Lib.hid (show w7.cell? ⟨w.heap.size, 0, none⟩ = some (.slice (some ⟨bl, off, none⟩) rows.length c) ∧ w7.cell? ⟨w.heap.size, 1, none⟩ = some (.slice (some ⟨lb, lo, none⟩) zs.length c') ∧ w7.cell? ⟨w.heap.size + 2, 0, none⟩ = some (.slice none 0 0) ∧ w7.cell? ⟨w.heap.size + 2, 1, none⟩ = some (.int .i64 0) ∧ w7.frozen? ⟨w.heap.size + 2, 0, none⟩ = false ∧ w7.frozen? ⟨w.heap.size + 2, 1, none⟩ = false ∧ w7.frozen? ⟨w.heap.size + 1, 0, none⟩ = false ∧ w7.frozen? ⟨w.heap.size + 1, 1, none⟩ = false from ⟨HC7.out.cell (by omega) (by omega) (fun e => (HNB.out _ e).1 rfl) HX6.out.1, HC7.out.cell (by omega) (by omega) (fun e => (HNB.out _ e).1 rfl) HX6.out.2.1, HC7.out.cell (by omega) (by omega) (fun e => (HNB.out _ e).2.2 rfl) HX6.out.2.2.1, HC7.out.cell (by omega) (by omega) (fun e => (HNB.out _ e).2.2 rfl) HX6.out.2.2.2.1, HC7.out.fro (by omega) (by omega) (fun e => (HNB.out _ e).2.2 rfl) HX6.out.2.2.2.2.1, HC7.out.fro (by omega) (by omega) (fun e => (HNB.out _ e).2.2 rfl) HX6.out.2.2.2.2.2.1, HC7.out.fro (by omega) (by omega) (fun e => (HNB.out _ e).2.1 rfl) HX6.out.2.2.2.2.2.2.1, HC7.out.fro (by omega) (by omega) (fun e => (HNB.out _ e).2.1 rfl) HX6.out.2.2.2.2.2.2.2⟩)
              have HS7 := Lib.hid (show w.heap.size + 2 < w7.heap.size by omega)
              have HNB7 := Lib.hid (show ∀ g, tv'.ownBlock = some g → g ≠ w.heap.size ∧ g ≠ w.heap.size + 1 ∧ g ≠ w.heap.size + 2 from fun g e => by
                rcases HC7.out.2.2 g e with e2 | e2
                · exact HNB.out g e2
                · omega)
              clear n0 n1 n2 n3
              go_wp2_with fail
              go_roundw
              case rel => exact ⟨k + 1, by omega, by first | (rw [HCN.out]; done) | (rw [HCN.out]; rfl) | (rw [HCN.out]; congr 1), by go_num, HOK2, Lib.hid (by rw [HSP.out]; exact ⟨p1, q1, HREL3.out.1, HREL3.out.2.reads, fun _ => HREL3.out.2⟩), HX7, HBW7, Lib.hid (by rw [HTN.out]; exact ⟨tv', HT7.out, HC6.out.trans HC7.out, HNB7.out⟩), HS7⟩
              case measure => simp [intOf]; omega
            exact AllReadyH.nil
          exact AllReadyH.nil
        refine AllReadyH.cons rfl (fun K hK => ?_) ?_
        · go_simp
          refine hK.out _ _ ?_ (fun hHeld => ?_)
          · exact ⟨cell_old _ xl, cell_old _ hlc, cell_old _ y0, cell_old _ y1, ((Below.refl _ _).drew.alloc (Nat.le_refl _) _)⟩
          clear hK K
          try simp only [List.getElem_toArray, List.getElem_cons_succ, List.getElem_cons_zero, Act.put, List.setIfInBounds_toArray, List.set_cons_zero, List.set_cons_succ]
          refine wpAnyH_ready (rs := [7]) (by kernel_rfl) (by simp) ?_
          refine AllReadyH.cons rfl (fun K hK => ?_) ?_
          · go_simp
            refine Calls.mono (HT.out _ ?_) ?_
            · exact hHeld
            clear hHeld
            rintro e va ⟨p1, q1, rfl, hoN, hbb, hbx⟩
            refine hK.out _ _ ?_ (fun hHeld => ?_)
            · exact hbx
            clear hK K
            try simp only [List.getElem_toArray, List.getElem_cons_succ, List.getElem_cons_zero, Act.put, List.setIfInBounds_toArray, List.set_cons_zero, List.set_cons_succ]
            have y8 := cell_below hbb (show (wr.drew.alloc (.cells #[.slice none 0 0, .int .i64 0] 46)).cell? ⟨wr.heap.size, 0, none⟩ = some (.slice none 0 0) from cell_new _ _ _ rfl rfl) (by simp)
            have y9 := cell_below hbb (show (wr.drew.alloc (.cells #[.slice none 0 0, .int .i64 0] 46)).cell? ⟨wr.heap.size, 1, none⟩ = some (.int .i64 0) from cell_new _ _ _ rfl rfl) (by simp)
            have z8 := fro_below hbb (show (wr.drew.alloc (.cells #[.slice none 0 0, .int .i64 0] 46)).frozen? ⟨wr.heap.size, 0, none⟩ = false from fro_new _ _ _ rfl) (by simp)
            have z9 := fro_below hbb (show (wr.drew.alloc (.cells #[.slice none 0 0, .int .i64 0] 46)).frozen? ⟨wr.heap.size, 1, none⟩ = false from fro_new _ _ _ rfl) (by simp)
            refine wpAnyH_take (i := 8) (v := ?_) rfl (by kernel_rfl) (by kernel_rfl) (by kernel_rfl) (fun _ _ _ h => h) (Or.inl ⟨by rfl, ?_⟩) (by assumption) ?_
            rotate_left
            · intro w9 hSw; (try dsimp only at hSw); go_simp; try with_reducible rfl
            try simp only [List.getElem_toArray, List.getElem_cons_succ, List.getElem_cons_zero, Act.put, List.setIfInBounds_toArray, List.set_cons_zero, List.set_cons_succ]
            refine wpAnyH_take (i := 9) (v := ?_) rfl (by kernel_rfl) (by kernel_rfl) (by kernel_rfl) (fun _ _ _ h => h) (Or.inl ⟨by rfl, ?_⟩) (by assumption) ?_
            rotate_left
            · intro w9 hSw; (try dsimp only at hSw); go_simp; try with_reducible rfl
            try simp only [List.getElem_toArray, List.getElem_cons_succ, List.getElem_cons_zero, Act.put, List.setIfInBounds_toArray, List.set_cons_zero, List.set_cons_succ]
            refine wpAnyH_take (i := 10) (v := ?_) rfl (by kernel_rfl) (by kernel_rfl) (by kernel_rfl) (fun _ _ _ h => h) (Or.inl ⟨by rfl, ?_⟩) (by assumption) ?_
            rotate_left
            · intro w9 hSw; (try dsimp only at hSw); go_simp; try with_reducible rfl
            try simp only [List.getElem_toArray, List.getElem_cons_succ, List.getElem_cons_zero, Act.put, List.setIfInBounds_toArray, List.set_cons_zero, List.set_cons_succ]
            refine wpAnyH_take (i := 11) (v := ?_) rfl (by kernel_rfl) (by kernel_rfl) (by kernel_rfl) (fun _ _ _ h => h) (Or.inl ⟨by rfl, ?_⟩) (by assumption) ?_
            rotate_left
            · intro w9 hSw; (try dsimp only at hSw); go_simp; try with_reducible rfl
            try simp only [List.getElem_toArray, List.getElem_cons_succ, List.getElem_cons_zero, Act.put, List.setIfInBounds_toArray, List.set_cons_zero, List.set_cons_succ]
            refine wpAnyH_ready (rs := [13]) (by kernel_rfl) (by simp) ?_
            refine AllReadyH.cons rfl (fun K hK => ?_) ?_
            · go_simp
              refine hK.out _ _ ?_ (fun hHeld => ?_)
              · exact ⟨cell_set (cell_set hbx.1 (by first | (simp; done) | (simp; omega) | omega) _) (by first | (simp; done) | (simp; omega) | omega) _, cell_set (cell_set hbx.2.1 (by first | (simp; done) | (simp; omega) | omega) _) (by first | (simp; done) | (simp; omega) | omega) _, cell_set (cell_set hbx.2.2.1 (by first | (simp; done) | (simp; omega) | omega) _) (by first | (simp; done) | (simp; omega) | omega) _, cell_set (cell_set hbx.2.2.2.1 (by first | (simp; done) | (simp; omega) | omega) _) (by first | (simp; done) | (simp; omega) | omega) _, (hbx.2.2.2.2.setCell (by simp) _).setCell (by simp) _⟩
              clear hK K
              try simp only [List.getElem_toArray, List.getElem_cons_succ, List.getElem_cons_zero, Act.put, List.setIfInBounds_toArray, List.set_cons_zero, List.set_cons_succ]
              refine wpAnyH_take (i := 14) (v := ?_) rfl (by kernel_rfl) (by kernel_rfl) (by kernel_rfl) (fun _ _ _ h => h) (Or.inl ⟨by rfl, ?_⟩) (by assumption) ?_
              rotate_left
              · intro w9 hSw; (try dsimp only at hSw); go_simp; try with_reducible rfl
              try simp only [List.getElem_toArray, List.getElem_cons_succ, List.getElem_cons_zero, Act.put, List.setIfInBounds_toArray, List.set_cons_zero, List.set_cons_succ]
              refine wpAnyH_take (i := 15) (v := ?_) rfl (by kernel_rfl) (by kernel_rfl) (by kernel_rfl) (fun _ _ _ h => h) (Or.inl ⟨by rfl, ?_⟩) (by assumption) ?_
              rotate_left
              · intro w9 hSw; (try dsimp only at hSw); go_simp; try with_reducible rfl
              try simp only [List.getElem_toArray, List.getElem_cons_succ, List.getElem_cons_zero, Act.put, List.setIfInBounds_toArray, List.set_cons_zero, List.set_cons_succ]
              refine wpAnyH_done (by kernel_rfl) ?_ _
              refine NoPanic.normal ?_
              have HN5 := Lib.hid (show ((va.setCell ⟨wr.heap.size, 0, none⟩ (.slice p1 (stW ws b r y).length q1)).setCell ⟨wr.heap.size, 1, none⟩ (.int .i64 (stV ws b r y))).cell? ⟨wr.heap.size, 0, none⟩ = some (.slice p1 (stW ws b r y).length q1) ∧ ((va.setCell ⟨wr.heap.size, 0, none⟩ (.slice p1 (stW ws b r y).length q1)).setCell ⟨wr.heap.size, 1, none⟩ (.int .i64 (stV ws b r y))).cell? ⟨wr.heap.size, 1, none⟩ = some (.int .i64 (stV ws b r y)) from ⟨(World.cell?_setCell_other _ _ _ _ (by simp)).trans (World.cell?_setCell_same _ _ _ y8), World.cell?_setCell_same _ _ _ ((World.cell?_setCell_other _ _ _ _ (by simp)).trans y9)⟩)
              have HB6 := Lib.hid hHeld.2.2.2.2
              have hNB : wr.heap.size ≤ wr.heap.size ∧ wr.heap.size < ((va.setCell ⟨wr.heap.size, 0, none⟩ (.slice p1 (stW ws b r y).length q1)).setCell ⟨wr.heap.size, 1, none⟩ (.int .i64 (stV ws b r y))).heap.size := ⟨by have := hbx.2.2.2.2.size; omega, by first | (simp; done) | (have := hbb.size; simp at this ⊢; omega)⟩
              have HON := Lib.hid (show OwnI wr.heap.size ((va.setCell ⟨wr.heap.size, 0, none⟩ (.slice p1 (stW ws b r y).length q1)).setCell ⟨wr.heap.size, 1, none⟩ (.int .i64 (stV ws b r y))).heap.size ((va.setCell ⟨wr.heap.size, 0, none⟩ (.slice p1 (stW ws b r y).length q1)).setCell ⟨wr.heap.size, 1, none⟩ (.int .i64 (stV ws b r y))) (.slice p1 (stW ws b r y).length q1) (stW ws b r y) from (by simp only [size_set]; exact ((hoN.set (a := ⟨wr.heap.size, 0, none⟩) (by simp) _).set (a := ⟨wr.heap.size, 1, none⟩) (by simp) _).mono (by simp) (Nat.le_refl _)))
              clear hHeld hbx hbb HT hoN y8 y9 z8 z9
              generalize ((va.setCell ⟨wr.heap.size, 0, none⟩ (.slice p1 (stW ws b r y).length q1)).setCell ⟨wr.heap.size, 1, none⟩ (.int .i64 (stV ws b r y))) = w5 at *
              have n0 := HN5.out.1
              have n1 := HN5.out.2
              have hs5 := HB6.out.size
              obtain ⟨u0, u1, u2, u3, u4, u5, u6, u7⟩ := (show w5.cell? ⟨w.heap.size, 0, none⟩ = some (.slice (some ⟨bl, off, none⟩) rows.length c) ∧ w5.cell? ⟨w.heap.size, 1, none⟩ = some (.slice (some ⟨lb, lo, none⟩) zs.length c') ∧ w5.cell? ⟨w.heap.size + 2, 0, none⟩ = some (.slice none 0 0) ∧ w5.cell? ⟨w.heap.size + 2, 1, none⟩ = some (.int .i64 0) ∧ w5.frozen? ⟨w.heap.size + 2, 0, none⟩ = false ∧ w5.frozen? ⟨w.heap.size + 2, 1, none⟩ = false ∧ w5.frozen? ⟨w.heap.size + 1, 0, none⟩ = false ∧ w5.frozen? ⟨w.heap.size + 1, 1, none⟩ = false from ⟨cell_below HB6.out HX.out.1 (by omega), cell_below HB6.out HX.out.2.1 (by omega), cell_below HB6.out HX.out.2.2.1 (by omega), cell_below HB6.out HX.out.2.2.2.1 (by omega), fro_below HB6.out HX.out.2.2.2.2.1 (by omega), fro_below HB6.out HX.out.2.2.2.2.2.1 (by omega), fro_below HB6.out HX.out.2.2.2.2.2.2.1 (by omega), fro_below HB6.out HX.out.2.2.2.2.2.2.2 (by omega)⟩)
              have HX5 := Lib.hid (And.intro u0 (And.intro u1 (And.intro u2 (And.intro u3 (And.intro u4 (And.intro u5 (And.intro u6 u7)))))))
              have HBW := Lib.hid (HBl.out.trans (HB6.out.mono (by have := HBl.out.size; omega)))
              have hbr := HBl.out.size
              have HT5 := Lib.hid (HTR.out.below (by omega) HB6.out)
              have HC5 := Lib.hid (HCG.out.trans (Chg.of HB6.out tv))
              have q0 := cell_below HB6.out y0 (by omega)
              have q1' := cell_below HB6.out y1 (by omega)
              clear u0 u1 u2 u3 u4 u5
              generalize stW ws b r y = zz at *
              generalize stV ws b r y = bb at *
              have HREL2 := Lib.hid (show (((w5.setCell ⟨w.heap.size + 1, 0, none⟩ (.slice p1 zz.length q1)).setCell ⟨w.heap.size + 1, 1, none⟩ (.int .i64 bb)).cell? ⟨w.heap.size + 1, 0, none⟩ = some (.slice p1 zz.length q1) ∧ ((w5.setCell ⟨w.heap.size + 1, 0, none⟩ (.slice p1 zz.length q1)).setCell ⟨w.heap.size + 1, 1, none⟩ (.int .i64 bb)).cell? ⟨w.heap.size + 1, 1, none⟩ = some (.int .i64 bb)) ∧ OwnI (w.heap.size + 3) ((w5.setCell ⟨w.heap.size + 1, 0, none⟩ (.slice p1 zz.length q1)).setCell ⟨w.heap.size + 1, 1, none⟩ (.int .i64 bb)).heap.size ((w5.setCell ⟨w.heap.size + 1, 0, none⟩ (.slice p1 zz.length q1)).setCell ⟨w.heap.size + 1, 1, none⟩ (.int .i64 bb)) (.slice p1 zz.length q1) zz from ⟨⟨(World.cell?_setCell_other _ _ _ _ (by simp)).trans (World.cell?_setCell_same _ _ _ q0), World.cell?_setCell_same _ _ _ ((World.cell?_setCell_other _ _ _ _ (by simp)).trans q1')⟩, by simp only [size_set]; exact ((HON.out.set (by simp; omega) _).set (by simp; omega) _).mono (by omega) (Nat.le_refl _)⟩)
              have HX6 := Lib.hid (show ((w5.setCell ⟨w.heap.size + 1, 0, none⟩ (.slice p1 zz.length q1)).setCell ⟨w.heap.size + 1, 1, none⟩ (.int .i64 bb)).cell? ⟨w.heap.size, 0, none⟩ = some (.slice (some ⟨bl, off, none⟩) rows.length c) ∧ ((w5.setCell ⟨w.heap.size + 1, 0, none⟩ (.slice p1 zz.length q1)).setCell ⟨w.heap.size + 1, 1, none⟩ (.int .i64 bb)).cell? ⟨w.heap.size, 1, none⟩ = some (.slice (some ⟨lb, lo, none⟩) zs.length c') ∧ ((w5.setCell ⟨w.heap.size + 1, 0, none⟩ (.slice p1 zz.length q1)).setCell ⟨w.heap.size + 1, 1, none⟩ (.int .i64 bb)).cell? ⟨w.heap.size + 2, 0, none⟩ = some (.slice none 0 0) ∧ ((w5.setCell ⟨w.heap.size + 1, 0, none⟩ (.slice p1 zz.length q1)).setCell ⟨w.heap.size + 1, 1, none⟩ (.int .i64 bb)).cell? ⟨w.heap.size + 2, 1, none⟩ = some (.int .i64 0) ∧ ((w5.setCell ⟨w.heap.size + 1, 0, none⟩ (.slice p1 zz.length q1)).setCell ⟨w.heap.size + 1, 1, none⟩ (.int .i64 bb)).frozen? ⟨w.heap.size + 2, 0, none⟩ = false ∧ ((w5.setCell ⟨w.heap.size + 1, 0, none⟩ (.slice p1 zz.length q1)).setCell ⟨w.heap.size + 1, 1, none⟩ (.int .i64 bb)).frozen? ⟨w.heap.size + 2, 1, none⟩ = false ∧ ((w5.setCell ⟨w.heap.size + 1, 0, none⟩ (.slice p1 zz.length q1)).setCell ⟨w.heap.size + 1, 1, none⟩ (.int .i64 bb)).frozen? ⟨w.heap.size + 1, 0, none⟩ = false ∧ ((w5.setCell ⟨w.heap.size + 1, 0, none⟩ (.slice p1 zz.length q1)).setCell ⟨w.heap.size + 1, 1, none⟩ (.int .i64 bb)).frozen? ⟨w.heap.size + 1, 1, none⟩ = false from ⟨cell_set (cell_set HX5.out.1 (by first | (simp; done) | (simp; omega) | omega) _) (by first | (simp; done) | (simp; omega) | omega) _, cell_set (cell_set HX5.out.2.1 (by first | (simp; done) | (simp; omega) | omega) _) (by first | (simp; done) | (simp; omega) | omega) _, cell_set (cell_set HX5.out.2.2.1 (by first | (simp; done) | (simp; omega) | omega) _) (by first | (simp; done) | (simp; omega) | omega) _, cell_set (cell_set HX5.out.2.2.2.1 (by first | (simp; done) | (simp; omega) | omega) _) (by first | (simp; done) | (simp; omega) | omega) _, by rw [World.frozen?_setCell, World.frozen?_setCell]; exact HX5.out.2.2.2.2.1, by rw [World.frozen?_setCell, World.frozen?_setCell]; exact HX5.out.2.2.2.2.2.1, by rw [World.frozen?_setCell, World.frozen?_setCell]; exact HX5.out.2.2.2.2.2.2.1, by rw [World.frozen?_setCell, World.frozen?_setCell]; exact HX5.out.2.2.2.2.2.2.2⟩)
              have HBW6 := Lib.hid (show Below b0.heap.size b0 ((w5.setCell ⟨w.heap.size + 1, 0, none⟩ (.slice p1 zz.length q1)).setCell ⟨w.heap.size + 1, 1, none⟩ (.int .i64 bb)) from (HBW.out.setCell (by simp; omega) _).setCell (by simp; omega) _)
              have HT6 := Lib.hid (show Tr K b0.heap.size ((w5.setCell ⟨w.heap.size + 1, 0, none⟩ (.slice p1 zz.length q1)).setCell ⟨w.heap.size + 1, 1, none⟩ (.int .i64 bb)) tv str from (HT5.out.set (by simp; omega) (fun e => (HNB.out _ e).2.1 rfl) _).set (by simp; omega) (fun e => (HNB.out _ e).2.1 rfl) _)
              have HC6 := Lib.hid (show Chg K w ((w5.setCell ⟨w.heap.size + 1, 0, none⟩ (.slice p1 zz.length q1)).setCell ⟨w.heap.size + 1, 1, none⟩ (.int .i64 bb)) tv0 tv from (HC5.out.set (by first | (simp; done) | (simp; omega)) _).set (by first | (simp; done) | (simp; omega)) _)
              have HPN := Lib.hid (show ∀ g, (Value.slice p1 zz.length q1).ownBlock = some g → wr.heap.size ≤ g from fun g e => (HON.out.lt e).1)
              have HS6 := Lib.hid (show w.heap.size + 2 < ((w5.setCell ⟨w.heap.size + 1, 0, none⟩ (.slice p1 zz.length q1)).setCell ⟨w.heap.size + 1, 1, none⟩ (.int .i64 bb)).heap.size from by rw [size_set, size_set]; omega)
              have HSP := Lib.hid (show (inn rows zs st (k + 1)).p = (zz, bb) from HST.out)
              have n2 : ((w5.setCell ⟨w.heap.size + 1, 0, none⟩ (.slice p1 zz.length q1)).setCell ⟨w.heap.size + 1, 1, none⟩ (.int .i64 bb)).cell? ⟨wr.heap.size, 0, none⟩ = some (.slice p1 zz.length q1) := cell_set (cell_set n0 (by first | (simp; done) | (simp; omega)) _) (by first | (simp; done) | (simp; omega)) _
              have n3 : ((w5.setCell ⟨w.heap.size + 1, 0, none⟩ (.slice p1 zz.length q1)).setCell ⟨w.heap.size + 1, 1, none⟩ (.int .i64 bb)).cell? ⟨wr.heap.size, 1, none⟩ = some (.int .i64 bb) := cell_set (cell_set n1 (by first | (simp; done) | (simp; omega)) _) (by first | (simp; done) | (simp; omega)) _
              have e5 : IntKind.i64.wrap ((cnt : Int) + 1) = ((cnt + 1 : Nat) : Int) := by rw [IntWalk.i64_in _ (by have := HF.out.few; omega)]; omega
              go_wp2_with fail
              refine (visit K b0.heap.size _ p1 zz.length q1 bb tv str ((w5.setCell ⟨w.heap.size + 1, 0, none⟩ (.slice p1 zz.length q1)).setCell ⟨w.heap.size + 1, 1, none⟩ (.int .i64 bb)) HT6.out (by rw [size_set, size_set]; omega) hKl (by omega)).mono ?_
              rintro e w7 ⟨tv', rfl, hT7, hC7, hB7⟩
              have HT7 := Lib.hid hT7
              have HC7 := Lib.hid hC7
              have hs7 : w.heap.size + 2 < ((w5.setCell ⟨w.heap.size + 1, 0, none⟩ (.slice p1 zz.length q1)).setCell ⟨w.heap.size + 1, 1, none⟩ (.int .i64 bb)).heap.size := HS6.out
              have hs8 := hC7.1
              have hsW : wr.heap.size ≤ w7.heap.size := by have h1 := HB6.out.size; rw [size_set, size_set] at hs8; omega
              have HBW7 := Lib.hid (HBW6.out.trans hB7)
              clear hT7 hC7 hB7
              have HREL3 := Lib.hid (show (w7.cell? ⟨w.heap.size + 1, 0, none⟩ = some (.slice p1 zz.length q1) ∧ w7.cell? ⟨w.heap.size + 1, 1, none⟩ = some (.int .i64 bb)) ∧ OwnI (w.heap.size + 3) w7.heap.size w7 (.slice p1 zz.length q1) zz from ⟨⟨HC7.out.cell (by omega) (by omega) (fun e => (HNB.out _ e).2.1 rfl) HREL2.out.1.1, HC7.out.cell (by omega) (by omega) (fun e => (HNB.out _ e).2.1 rfl) HREL2.out.1.2⟩, (HC7.out.own HREL2.out.2 (fun g e => ⟨by have := HPN.out g e; omega, fun e2 => by have h1 := HPN.out g e; have h2 := (HTR.out.2.2.1.lt g e2).2; omega⟩)).mono (Nat.le_refl _) hs8⟩)
              have HX7 := Lib.hid (show w7.cell? ⟨w.heap.size, 0, none⟩ = some (.slice (some ⟨bl, off, none⟩) rows.length c) ∧ w7.cell? ⟨w.heap.size, 1, none⟩ = some (.slice (some ⟨lb, lo, none⟩) zs.length c') ∧ w7.cell? ⟨w.heap.size + 2, 0, none⟩ = some (.slice none 0 0) ∧ w7.cell? ⟨w.heap.size + 2, 1, none⟩ = some (.int .i64 0) ∧ w7.frozen? ⟨w.heap.size + 2, 0, none⟩ = false ∧ w7.frozen? ⟨w.heap.size + 2, 1, none⟩ = false ∧ w7.frozen? ⟨w.heap.size + 1, 0, none⟩ = false ∧ w7.frozen? ⟨w.heap.size + 1, 1, none⟩ = false from ⟨HC7.out.cell (by omega) (by omega) (fun e => (HNB.out _ e).1 rfl) HX6.out.1, HC7.out.cell (by omega) (by omega) (fun e => (HNB.out _ e).1 rfl) HX6.out.2.1, HC7.out.cell (by omega) (by omega) (fun e => (HNB.out _ e).2.2 rfl) HX6.out.2.2.1, HC7.out.cell (by omega) (by omega) (fun e => (HNB.out _ e).2.2 rfl) HX6.out.2.2.2.1, HC7.out.fro (by omega) (by omega) (fun e => (HNB.out _ e).2.2 rfl) HX6.out.2.2.2.2.1, HC7.out.fro (by omega) (by omega) (fun e => (HNB.out _ e).2.2 rfl) HX6.out.2.2.2.2.2.1, HC7.out.fro (by omega) (by omega) (fun e => (HNB.out _ e).2.1 rfl) HX6.out.2.2.2.2.2.2.1, HC7.out.fro (by omega) (by omega) (fun e => (HNB.out _ e).2.1 rfl) HX6.out.2.2.2.2.2.2.2⟩)
              have HS7 := Lib.hid (show w.heap.size + 2 < w7.heap.size by omega)
              have HNB7 := Lib.hid (show ∀ g, tv'.ownBlock = some g → g ≠ w.heap.size ∧ g ≠ w.heap.size + 1 ∧ g ≠ w.heap.size + 2 from fun g e => by
                rcases HC7.out.2.2 g e with e2 | e2
                · exact HNB.out g e2
                · omega)
              clear n0 n1 n2 n3
              go_wp2_with fail
              go_roundw
              case rel => exact ⟨k + 1, by omega, by first | (rw [HCN.out]; done) | (rw [HCN.out]; rfl) | (rw [HCN.out]; congr 1), by go_num, HOK2, Lib.hid (by rw [HSP.out]; exact ⟨p1, q1, HREL3.out.1, HREL3.out.2.reads, fun _ => HREL3.out.2⟩), HX7, HBW7, Lib.hid (by rw [HTN.out]; exact ⟨tv', HT7.out, HC6.out.trans HC7.out, HNB7.out⟩), HS7⟩
              case measure => simp [intOf]; omega
            exact AllReadyH.nil
          exact AllReadyH.nil
        exact AllReadyH.nil
      · obtain ⟨bl, off, rp, rq, rfl, hbl, hc, hpq, hrow⟩ := Hhr.out.at hlt
        obtain ⟨lb, lo, rfl, hll, hlc⟩ := Hhz.out.at (k := k) (by have := HF.out.both; omega)
        have hbel := HBl.out
        have HROW := Lib.hid (hrow.below hbel)
        replace hc := cell_below hbel hc hbl
        replace hlc := cell_below hbel hlc hll
        have xl := HX.out.2.1
        obtain ⟨y0, y1⟩ := hpc
        have HPR := Lib.hid hpr
        have HSB := Lib.hid (step_ok HF.out HPK.out HLE.out hlt)
        have HST := Lib.hid (step_p rows zs st k)
        have HL4 := Lib.hid (st_fit HF.out HPK.out HLE.out k hlt)
        have s16 := HF.out.few
        have i1 : (0 : Int) ≤ (k : Int) := by omega
        have i2 : (k : Int) < (rows.length : Int) := by omega
        have i3 : (k : Int) < (zs.length : Int) := by have := HF.out.both; omega
        clear hrow hpq hpr hpo hbel
        have HOK2 := Lib.hid (show ∀ q, q < k + 1 → okP (inn rows zs st (q + 1)) = true from fun q hq => by
          by_cases e : q = k
          · rw [e]; exact hok
          · exact HOK.out q (by omega))
        have HCN := Lib.hid (show cn rows zs st (k + 1) = cn rows zs st k from (inn_same hsm).2)
        have HCH := Lib.hid (show decide (side (inn rows zs st k).p.1 (inn rows zs st k).p.2 (rows.getD k []) ≠ zs.getD k 0) = false from by rw [step_ch, hsm]; rfl)
        have HSB2 := Lib.hid (HSB.out.trans hok)
        have HTN := Lib.hid (show (inn rows zs st (k + 1)).tr = (inn rows zs st k).tr from by rw [(inn_same hsm).1])
        clear hok hsm HSB
        have htl8 : (inn rows zs st k).tr.length ≤ 520 := by have := HLT.out; omega
        clear htrl
        generalize inn rows zs st k = sn at *
        generalize cn rows zs st k = cnt at *
        obtain ⟨⟨ws, b⟩, smi, str, spl⟩ := sn
        dsimp only at *
        generalize rows.getD k [] = r at *
        generalize zs.getD k 0 = y at *
        have HT := Lib.hid (show ∀ wa : World, (wa.cell? ⟨w.heap.size, 1, none⟩ = some (.slice (some ⟨lb, lo, none⟩) zs.length c') ∧ wa.cell? ⟨lb, lo + k, none⟩ = some (.int .i64 y) ∧ wa.cell? ⟨w.heap.size + 1, 0, none⟩ = some (.slice pv ws.length qv) ∧ wa.cell? ⟨w.heap.size + 1, 1, none⟩ = some (.int .i64 b) ∧ Below wr.heap.size wr wa) → Calls Try.prog 48 #[.agg #[.slice pv ws.length qv, .int .i64 b], .slice rp r.length rq, .int .i64 y] wa (fun e w' => ∃ (p1 : Option Addr) (q1 : Nat), e = .returned (.tuple #[.agg #[.slice p1 (stW ws b r y).length q1, .int .i64 (stV ws b r y)], .bool false, .bool true]) ∧ OwnI wa.heap.size w'.heap.size w' (.slice p1 (stW ws b r y).length q1) (stW ws b r y) ∧ Below wa.heap.size wa w' ∧ w'.cell? ⟨w.heap.size, 1, none⟩ = some (.slice (some ⟨lb, lo, none⟩) zs.length c') ∧ w'.cell? ⟨lb, lo + k, none⟩ = some (.int .i64 y) ∧ w'.cell? ⟨w.heap.size + 1, 0, none⟩ = some (.slice pv ws.length qv) ∧ w'.cell? ⟨w.heap.size + 1, 1, none⟩ = some (.int .i64 b) ∧ Below wr.heap.size wr w') from fun wa hS => by
          refine (stepperc.impl_yes pv ws qv b rp r rq y wa (HPR.out.below hS.2.2.2.2) (HROW.out.below hS.2.2.2.2) (by have := HL4.out.le; omega) (by have := HL4.out.len; have := HL4.out.le; omega) HSB2.out).mono ?_
          rintro e w' ⟨v', rfl, ho, hb⟩
          obtain ⟨p1, q1, rfl, _, _, _⟩ := ho.slice
          exact ⟨p1, q1, by rw [HCH.out], ho, hb, cell_below hb hS.1 (by have := hS.2.2.2.2.size; omega), cell_below hb hS.2.1 (by have := hS.2.2.2.2.size; omega), cell_below hb hS.2.2.1 (by have := hS.2.2.2.2.size; omega), cell_below hb hS.2.2.2.1 (by have := hS.2.2.2.2.size; omega), hS.2.2.2.2.trans (hb.mono hS.2.2.2.2.size)⟩)
        go_wp2_with fail
        refine wp_region_noPanic ?_
        refine wp_region_held_drew (S := fun w' => w'.cell? ⟨w.heap.size, 1, none⟩ = some (.slice (some ⟨lb, lo, none⟩) zs.length c') ∧ w'.cell? ⟨lb, lo + k, none⟩ = some (.int .i64 y) ∧ w'.cell? ⟨w.heap.size + 1, 0, none⟩ = some (.slice pv ws.length qv) ∧ w'.cell? ⟨w.heap.size + 1, 1, none⟩ = some (.int .i64 b) ∧ Below wr.heap.size wr w') (by kernel_rfl) ?_ (fun hHeld => ?_)
        · exact ⟨xl, hlc, y0, y1, (Below.refl _ _).drew⟩
        refine wpAnyH_take (i := 0) (v := ?_) rfl (by kernel_rfl) (by kernel_rfl) (by kernel_rfl) (fun _ _ _ h => h) (Or.inl ⟨by rfl, ?_⟩) (by assumption) ?_
        rotate_left
        · intro w9 hSw; (try dsimp only at hSw); go_simp; try with_reducible rfl
        try simp only [List.getElem_toArray, List.getElem_cons_succ, List.getElem_cons_zero, Act.put, List.setIfInBounds_toArray, List.set_cons_zero, List.set_cons_succ]
        refine wpAnyH_take (i := 1) (v := ?_) rfl (by kernel_rfl) (by kernel_rfl) (by kernel_rfl) (fun _ _ _ h => h) (Or.inl ⟨by rfl, ?_⟩) (by assumption) ?_
        rotate_left
        · intro w9 hSw; (try dsimp only at hSw); go_simp; try with_reducible rfl
        try simp only [List.getElem_toArray, List.getElem_cons_succ, List.getElem_cons_zero, Act.put, List.setIfInBounds_toArray, List.set_cons_zero, List.set_cons_succ]
        refine wpAnyH_take (i := 2) (v := ?_) rfl (by kernel_rfl) (by kernel_rfl) (by kernel_rfl) (fun _ _ _ h => h) (Or.inl ⟨by rfl, ?_⟩) (by assumption) ?_
        rotate_left
        · intro w9 hSw; (try dsimp only at hSw); go_simp; try with_reducible rfl
        try simp only [List.getElem_toArray, List.getElem_cons_succ, List.getElem_cons_zero, Act.put, List.setIfInBounds_toArray, List.set_cons_zero, List.set_cons_succ]
        refine wpAnyH_take (i := 3) (v := ?_) rfl (by kernel_rfl) (by kernel_rfl) (by kernel_rfl) (fun _ _ _ h => h) (Or.inl ⟨by rfl, ?_⟩) (by assumption) ?_
        rotate_left
        · intro w9 hSw; (try dsimp only at hSw); go_simp; try with_reducible rfl
        try simp only [List.getElem_toArray, List.getElem_cons_succ, List.getElem_cons_zero, Act.put, List.setIfInBounds_toArray, List.set_cons_zero, List.set_cons_succ]
        refine wpAnyH_take (i := 4) (v := ?_) rfl (by kernel_rfl) (by kernel_rfl) (by kernel_rfl) (fun _ _ _ h => h) (Or.inl ⟨by rfl, ?_⟩) (by assumption) ?_
        rotate_left
        · intro w9 hSw; (try dsimp only at hSw); go_simp; try with_reducible rfl
        try simp only [List.getElem_toArray, List.getElem_cons_succ, List.getElem_cons_zero, Act.put, List.setIfInBounds_toArray, List.set_cons_zero, List.set_cons_succ]
        refine wpAnyH_take (i := 5) (v := ?_) rfl (by kernel_rfl) (by kernel_rfl) (by kernel_rfl) (fun _ _ _ h => h) (Or.inl ⟨by rfl, ?_⟩) (by assumption) ?_
        rotate_left
        · intro w9 hSw; (try dsimp only at hSw); go_simp; try with_reducible rfl
        try simp only [List.getElem_toArray, List.getElem_cons_succ, List.getElem_cons_zero, Act.put, List.setIfInBounds_toArray, List.set_cons_zero, List.set_cons_succ]
        refine wpAnyH_take (i := 6) (v := ?_) rfl (by kernel_rfl) (by kernel_rfl) (by kernel_rfl) (fun _ _ _ h => h) (Or.inl ⟨by rfl, ?_⟩) (by assumption) ?_
        rotate_left
        · intro w9 hSw; (try dsimp only at hSw); go_simp; try with_reducible rfl
        try simp only [List.getElem_toArray, List.getElem_cons_succ, List.getElem_cons_zero, Act.put, List.setIfInBounds_toArray, List.set_cons_zero, List.set_cons_succ]
        refine wpAnyH_ready (rs := [7, 12]) (by kernel_rfl) (by simp) ?_
        refine AllReadyH.cons rfl (fun K hK => ?_) ?_
        · go_simp
          refine Calls.mono (HT.out _ ?_) ?_
          · exact hHeld
          clear hHeld
          rintro e va ⟨p1, q1, rfl, hoN, hbb, hbx⟩
          refine hK.out _ _ ?_ (fun hHeld => ?_)
          · exact hbx
          clear hK K
          try simp only [List.getElem_toArray, List.getElem_cons_succ, List.getElem_cons_zero, Act.put, List.setIfInBounds_toArray, List.set_cons_zero, List.set_cons_succ]
          refine wpAnyH_take (i := 8) (v := ?_) rfl (by kernel_rfl) (by kernel_rfl) (by kernel_rfl) (fun _ _ _ h => h) (Or.inl ⟨by rfl, ?_⟩) (by assumption) ?_
          rotate_left
          · intro w9 hSw; (try dsimp only at hSw); go_simp; try with_reducible rfl
          try simp only [List.getElem_toArray, List.getElem_cons_succ, List.getElem_cons_zero, Act.put, List.setIfInBounds_toArray, List.set_cons_zero, List.set_cons_succ]
          refine wpAnyH_take (i := 9) (v := ?_) rfl (by kernel_rfl) (by kernel_rfl) (by kernel_rfl) (fun _ _ _ h => h) (Or.inl ⟨by rfl, ?_⟩) (by assumption) ?_
          rotate_left
          · intro w9 hSw; (try dsimp only at hSw); go_simp; try with_reducible rfl
          try simp only [List.getElem_toArray, List.getElem_cons_succ, List.getElem_cons_zero, Act.put, List.setIfInBounds_toArray, List.set_cons_zero, List.set_cons_succ]
          refine wpAnyH_take (i := 10) (v := ?_) rfl (by kernel_rfl) (by kernel_rfl) (by kernel_rfl) (fun _ _ _ h => h) (Or.inl ⟨by rfl, ?_⟩) (by assumption) ?_
          rotate_left
          · intro w9 hSw; (try dsimp only at hSw); go_simp; try with_reducible rfl
          try simp only [List.getElem_toArray, List.getElem_cons_succ, List.getElem_cons_zero, Act.put, List.setIfInBounds_toArray, List.set_cons_zero, List.set_cons_succ]
          refine wpAnyH_take (i := 11) (v := ?_) rfl (by kernel_rfl) (by kernel_rfl) (by kernel_rfl) (fun _ _ _ h => h) (Or.inl ⟨by rfl, ?_⟩) (by assumption) ?_
          rotate_left
          · intro w9 hSw; (try dsimp only at hSw); go_simp; try with_reducible rfl
          try simp only [List.getElem_toArray, List.getElem_cons_succ, List.getElem_cons_zero, Act.put, List.setIfInBounds_toArray, List.set_cons_zero, List.set_cons_succ]
          refine wpAnyH_ready (rs := [12]) (by kernel_rfl) (by simp) ?_
          refine AllReadyH.cons rfl (fun K hK => ?_) ?_
          · go_simp
            refine hK.out _ _ ?_ (fun hHeld => ?_)
            · exact ⟨cell_old _ hbx.1, cell_old _ hbx.2.1, cell_old _ hbx.2.2.1, cell_old _ hbx.2.2.2.1, hbx.2.2.2.2.alloc hbx.2.2.2.2.size _⟩
            clear hK K
            try simp only [List.getElem_toArray, List.getElem_cons_succ, List.getElem_cons_zero, Act.put, List.setIfInBounds_toArray, List.set_cons_zero, List.set_cons_succ]
            refine wpAnyH_ready (rs := [13]) (by kernel_rfl) (by simp) ?_
            refine AllReadyH.cons rfl (fun K hK => ?_) ?_
            · go_simp
              refine hK.out _ _ ?_ (fun hHeld => ?_)
              · exact ⟨cell_old _ hbx.1, cell_old _ hbx.2.1, cell_old _ hbx.2.2.1, cell_old _ hbx.2.2.2.1, hbx.2.2.2.2.alloc hbx.2.2.2.2.size _⟩
              clear hK K
              try simp only [List.getElem_toArray, List.getElem_cons_succ, List.getElem_cons_zero, Act.put, List.setIfInBounds_toArray, List.set_cons_zero, List.set_cons_succ]
              refine wpAnyH_take (i := 14) (v := ?_) rfl (by kernel_rfl) (by kernel_rfl) (by kernel_rfl) (fun _ _ _ h => h) (Or.inl ⟨by rfl, ?_⟩) (by assumption) ?_
              rotate_left
              · intro w9 hSw; (try dsimp only at hSw); go_simp; try with_reducible rfl
              try simp only [List.getElem_toArray, List.getElem_cons_succ, List.getElem_cons_zero, Act.put, List.setIfInBounds_toArray, List.set_cons_zero, List.set_cons_succ]
              refine wpAnyH_take (i := 15) (v := ?_) rfl (by kernel_rfl) (by kernel_rfl) (by kernel_rfl) (fun _ _ _ h => h) (Or.inl ⟨by rfl, ?_⟩) (by assumption) ?_
              rotate_left
              · intro w9 hSw; (try dsimp only at hSw); go_simp; try with_reducible rfl
              try simp only [List.getElem_toArray, List.getElem_cons_succ, List.getElem_cons_zero, Act.put, List.setIfInBounds_toArray, List.set_cons_zero, List.set_cons_succ]
              refine wpAnyH_done (by kernel_rfl) ?_ _
              refine NoPanic.normal ?_
              have HN5 := Lib.hid (show (va.alloc (.cells #[.slice p1 (stW ws b r y).length q1, .int .i64 (stV ws b r y)] 46)).cell? ⟨va.heap.size, 0, none⟩ = some (.slice p1 (stW ws b r y).length q1) ∧ (va.alloc (.cells #[.slice p1 (stW ws b r y).length q1, .int .i64 (stV ws b r y)] 46)).cell? ⟨va.heap.size, 1, none⟩ = some (.int .i64 (stV ws b r y)) from ⟨cell_new _ _ _ rfl rfl, cell_new _ _ _ rfl rfl⟩)
              have HB6 := Lib.hid hHeld.2.2.2.2
              have hNB : wr.heap.size ≤ va.heap.size ∧ va.heap.size < (va.alloc (.cells #[.slice p1 (stW ws b r y).length q1, .int .i64 (stV ws b r y)] 46)).heap.size := ⟨by have := hbx.2.2.2.2.size; omega, by first | (simp; done) | (have := hbb.size; simp at this ⊢; omega)⟩
              have HON := Lib.hid (show OwnI wr.heap.size (va.alloc (.cells #[.slice p1 (stW ws b r y).length q1, .int .i64 (stV ws b r y)] 46)).heap.size (va.alloc (.cells #[.slice p1 (stW ws b r y).length q1, .int .i64 (stV ws b r y)] 46)) (.slice p1 (stW ws b r y).length q1) (stW ws b r y) from ((hoN.below (below_alloc va _)).mono (show wr.heap.size ≤ wr.drew.heap.size from Nat.le_refl _) (by simp)))
              clear hHeld hbx hbb HT hoN
              generalize (va.alloc (.cells #[.slice p1 (stW ws b r y).length q1, .int .i64 (stV ws b r y)] 46)) = w5 at *
              generalize va.heap.size = NB at *
              have n0 := HN5.out.1
              have n1 := HN5.out.2
              have hs5 := HB6.out.size
              obtain ⟨u0, u1, u2, u3, u4, u5, u6, u7⟩ := (show w5.cell? ⟨w.heap.size, 0, none⟩ = some (.slice (some ⟨bl, off, none⟩) rows.length c) ∧ w5.cell? ⟨w.heap.size, 1, none⟩ = some (.slice (some ⟨lb, lo, none⟩) zs.length c') ∧ w5.cell? ⟨w.heap.size + 2, 0, none⟩ = some (.slice none 0 0) ∧ w5.cell? ⟨w.heap.size + 2, 1, none⟩ = some (.int .i64 0) ∧ w5.frozen? ⟨w.heap.size + 2, 0, none⟩ = false ∧ w5.frozen? ⟨w.heap.size + 2, 1, none⟩ = false ∧ w5.frozen? ⟨w.heap.size + 1, 0, none⟩ = false ∧ w5.frozen? ⟨w.heap.size + 1, 1, none⟩ = false from ⟨cell_below HB6.out HX.out.1 (by omega), cell_below HB6.out HX.out.2.1 (by omega), cell_below HB6.out HX.out.2.2.1 (by omega), cell_below HB6.out HX.out.2.2.2.1 (by omega), fro_below HB6.out HX.out.2.2.2.2.1 (by omega), fro_below HB6.out HX.out.2.2.2.2.2.1 (by omega), fro_below HB6.out HX.out.2.2.2.2.2.2.1 (by omega), fro_below HB6.out HX.out.2.2.2.2.2.2.2 (by omega)⟩)
              have HX5 := Lib.hid (And.intro u0 (And.intro u1 (And.intro u2 (And.intro u3 (And.intro u4 (And.intro u5 (And.intro u6 u7)))))))
              have HBW := Lib.hid (HBl.out.trans (HB6.out.mono (by have := HBl.out.size; omega)))
              have hbr := HBl.out.size
              have HT5 := Lib.hid (HTR.out.below (by omega) HB6.out)
              have HC5 := Lib.hid (HCG.out.trans (Chg.of HB6.out tv))
              have q0 := cell_below HB6.out y0 (by omega)
              have q1' := cell_below HB6.out y1 (by omega)
              clear u0 u1 u2 u3 u4 u5
              generalize stW ws b r y = zz at *
              generalize stV ws b r y = bb at *
              have HREL2 := Lib.hid (show (((w5.setCell ⟨w.heap.size + 1, 0, none⟩ (.slice p1 zz.length q1)).setCell ⟨w.heap.size + 1, 1, none⟩ (.int .i64 bb)).cell? ⟨w.heap.size + 1, 0, none⟩ = some (.slice p1 zz.length q1) ∧ ((w5.setCell ⟨w.heap.size + 1, 0, none⟩ (.slice p1 zz.length q1)).setCell ⟨w.heap.size + 1, 1, none⟩ (.int .i64 bb)).cell? ⟨w.heap.size + 1, 1, none⟩ = some (.int .i64 bb)) ∧ OwnI (w.heap.size + 3) ((w5.setCell ⟨w.heap.size + 1, 0, none⟩ (.slice p1 zz.length q1)).setCell ⟨w.heap.size + 1, 1, none⟩ (.int .i64 bb)).heap.size ((w5.setCell ⟨w.heap.size + 1, 0, none⟩ (.slice p1 zz.length q1)).setCell ⟨w.heap.size + 1, 1, none⟩ (.int .i64 bb)) (.slice p1 zz.length q1) zz from ⟨⟨(World.cell?_setCell_other _ _ _ _ (by simp)).trans (World.cell?_setCell_same _ _ _ q0), World.cell?_setCell_same _ _ _ ((World.cell?_setCell_other _ _ _ _ (by simp)).trans q1')⟩, by simp only [size_set]; exact ((HON.out.set (by simp; omega) _).set (by simp; omega) _).mono (by omega) (Nat.le_refl _)⟩)
              have HX6 := Lib.hid (show ((w5.setCell ⟨w.heap.size + 1, 0, none⟩ (.slice p1 zz.length q1)).setCell ⟨w.heap.size + 1, 1, none⟩ (.int .i64 bb)).cell? ⟨w.heap.size, 0, none⟩ = some (.slice (some ⟨bl, off, none⟩) rows.length c) ∧ ((w5.setCell ⟨w.heap.size + 1, 0, none⟩ (.slice p1 zz.length q1)).setCell ⟨w.heap.size + 1, 1, none⟩ (.int .i64 bb)).cell? ⟨w.heap.size, 1, none⟩ = some (.slice (some ⟨lb, lo, none⟩) zs.length c') ∧ ((w5.setCell ⟨w.heap.size + 1, 0, none⟩ (.slice p1 zz.length q1)).setCell ⟨w.heap.size + 1, 1, none⟩ (.int .i64 bb)).cell? ⟨w.heap.size + 2, 0, none⟩ = some (.slice none 0 0) ∧ ((w5.setCell ⟨w.heap.size + 1, 0, none⟩ (.slice p1 zz.length q1)).setCell ⟨w.heap.size + 1, 1, none⟩ (.int .i64 bb)).cell? ⟨w.heap.size + 2, 1, none⟩ = some (.int .i64 0) ∧ ((w5.setCell ⟨w.heap.size + 1, 0, none⟩ (.slice p1 zz.length q1)).setCell ⟨w.heap.size + 1, 1, none⟩ (.int .i64 bb)).frozen? ⟨w.heap.size + 2, 0, none⟩ = false ∧ ((w5.setCell ⟨w.heap.size + 1, 0, none⟩ (.slice p1 zz.length q1)).setCell ⟨w.heap.size + 1, 1, none⟩ (.int .i64 bb)).frozen? ⟨w.heap.size + 2, 1, none⟩ = false ∧ ((w5.setCell ⟨w.heap.size + 1, 0, none⟩ (.slice p1 zz.length q1)).setCell ⟨w.heap.size + 1, 1, none⟩ (.int .i64 bb)).frozen? ⟨w.heap.size + 1, 0, none⟩ = false ∧ ((w5.setCell ⟨w.heap.size + 1, 0, none⟩ (.slice p1 zz.length q1)).setCell ⟨w.heap.size + 1, 1, none⟩ (.int .i64 bb)).frozen? ⟨w.heap.size + 1, 1, none⟩ = false from ⟨cell_set (cell_set HX5.out.1 (by first | (simp; done) | (simp; omega) | omega) _) (by first | (simp; done) | (simp; omega) | omega) _, cell_set (cell_set HX5.out.2.1 (by first | (simp; done) | (simp; omega) | omega) _) (by first | (simp; done) | (simp; omega) | omega) _, cell_set (cell_set HX5.out.2.2.1 (by first | (simp; done) | (simp; omega) | omega) _) (by first | (simp; done) | (simp; omega) | omega) _, cell_set (cell_set HX5.out.2.2.2.1 (by first | (simp; done) | (simp; omega) | omega) _) (by first | (simp; done) | (simp; omega) | omega) _, by rw [World.frozen?_setCell, World.frozen?_setCell]; exact HX5.out.2.2.2.2.1, by rw [World.frozen?_setCell, World.frozen?_setCell]; exact HX5.out.2.2.2.2.2.1, by rw [World.frozen?_setCell, World.frozen?_setCell]; exact HX5.out.2.2.2.2.2.2.1, by rw [World.frozen?_setCell, World.frozen?_setCell]; exact HX5.out.2.2.2.2.2.2.2⟩)
              have HBW6 := Lib.hid (show Below b0.heap.size b0 ((w5.setCell ⟨w.heap.size + 1, 0, none⟩ (.slice p1 zz.length q1)).setCell ⟨w.heap.size + 1, 1, none⟩ (.int .i64 bb)) from (HBW.out.setCell (by simp; omega) _).setCell (by simp; omega) _)
              have HT6 := Lib.hid (show Tr K b0.heap.size ((w5.setCell ⟨w.heap.size + 1, 0, none⟩ (.slice p1 zz.length q1)).setCell ⟨w.heap.size + 1, 1, none⟩ (.int .i64 bb)) tv str from (HT5.out.set (by simp; omega) (fun e => (HNB.out _ e).2.1 rfl) _).set (by simp; omega) (fun e => (HNB.out _ e).2.1 rfl) _)
              have HC6 := Lib.hid (show Chg K w ((w5.setCell ⟨w.heap.size + 1, 0, none⟩ (.slice p1 zz.length q1)).setCell ⟨w.heap.size + 1, 1, none⟩ (.int .i64 bb)) tv0 tv from (HC5.out.set (by first | (simp; done) | (simp; omega)) _).set (by first | (simp; done) | (simp; omega)) _)
              have HPN := Lib.hid (show ∀ g, (Value.slice p1 zz.length q1).ownBlock = some g → wr.heap.size ≤ g from fun g e => (HON.out.lt e).1)
              have HS6 := Lib.hid (show w.heap.size + 2 < ((w5.setCell ⟨w.heap.size + 1, 0, none⟩ (.slice p1 zz.length q1)).setCell ⟨w.heap.size + 1, 1, none⟩ (.int .i64 bb)).heap.size from by rw [size_set, size_set]; omega)
              have HSP := Lib.hid (show (inn rows zs st (k + 1)).p = (zz, bb) from HST.out)
              go_wp2_with fail
              go_roundw
              case rel => exact ⟨k + 1, by omega, by first | (rw [HCN.out]; done) | (rw [HCN.out]; rfl) | (rw [HCN.out]; congr 1), by go_num, HOK2, Lib.hid (by rw [HSP.out]; exact ⟨p1, q1, HREL2.out.1, HREL2.out.2.reads, fun _ => HREL2.out.2⟩), HX6, HBW6, Lib.hid (by rw [HTN.out]; exact ⟨tv, HT6.out, HC6.out, HNB.out⟩), HS6⟩
              case measure => simp [intOf]; omega
            exact AllReadyH.nil
          exact AllReadyH.nil
        refine AllReadyH.cons rfl (fun K hK => ?_) ?_
        · go_simp
          refine hK.out _ _ ?_ (fun hHeld => ?_)
          · exact ⟨cell_old _ xl, cell_old _ hlc, cell_old _ y0, cell_old _ y1, ((Below.refl _ _).drew.alloc (Nat.le_refl _) _)⟩
          clear hK K
          try simp only [List.getElem_toArray, List.getElem_cons_succ, List.getElem_cons_zero, Act.put, List.setIfInBounds_toArray, List.set_cons_zero, List.set_cons_succ]
          refine wpAnyH_ready (rs := [7]) (by kernel_rfl) (by simp) ?_
          refine AllReadyH.cons rfl (fun K hK => ?_) ?_
          · go_simp
            refine Calls.mono (HT.out _ ?_) ?_
            · exact hHeld
            clear hHeld
            rintro e va ⟨p1, q1, rfl, hoN, hbb, hbx⟩
            refine hK.out _ _ ?_ (fun hHeld => ?_)
            · exact hbx
            clear hK K
            try simp only [List.getElem_toArray, List.getElem_cons_succ, List.getElem_cons_zero, Act.put, List.setIfInBounds_toArray, List.set_cons_zero, List.set_cons_succ]
            have y8 := cell_below hbb (show (wr.drew.alloc (.cells #[.slice none 0 0, .int .i64 0] 46)).cell? ⟨wr.heap.size, 0, none⟩ = some (.slice none 0 0) from cell_new _ _ _ rfl rfl) (by simp)
            have y9 := cell_below hbb (show (wr.drew.alloc (.cells #[.slice none 0 0, .int .i64 0] 46)).cell? ⟨wr.heap.size, 1, none⟩ = some (.int .i64 0) from cell_new _ _ _ rfl rfl) (by simp)
            have z8 := fro_below hbb (show (wr.drew.alloc (.cells #[.slice none 0 0, .int .i64 0] 46)).frozen? ⟨wr.heap.size, 0, none⟩ = false from fro_new _ _ _ rfl) (by simp)
            have z9 := fro_below hbb (show (wr.drew.alloc (.cells #[.slice none 0 0, .int .i64 0] 46)).frozen? ⟨wr.heap.size, 1, none⟩ = false from fro_new _ _ _ rfl) (by simp)
            refine wpAnyH_take (i := 8) (v := ?_) rfl (by kernel_rfl) (by kernel_rfl) (by kernel_rfl) (fun _ _ _ h => h) (Or.inl ⟨by rfl, ?_⟩) (by assumption) ?_
            rotate_left
            · intro w9 hSw; (try dsimp only at hSw); go_simp; try with_reducible rfl
            try simp only [List.getElem_toArray, List.getElem_cons_succ, List.getElem_cons_zero, Act.put, List.setIfInBounds_toArray, List.set_cons_zero, List.set_cons_succ]
            refine wpAnyH_take (i := 9) (v := ?_) rfl (by kernel_rfl) (by kernel_rfl) (by kernel_rfl) (fun _ _ _ h => h) (Or.inl ⟨by rfl, ?_⟩) (by assumption) ?_
            rotate_left
            · intro w9 hSw; (try dsimp only at hSw); go_simp; try with_reducible rfl
            try simp only [List.getElem_toArray, List.getElem_cons_succ, List.getElem_cons_zero, Act.put, List.setIfInBounds_toArray, List.set_cons_zero, List.set_cons_succ]
            refine wpAnyH_take (i := 10) (v := ?_) rfl (by kernel_rfl) (by kernel_rfl) (by kernel_rfl) (fun _ _ _ h => h) (Or.inl ⟨by rfl, ?_⟩) (by assumption) ?_
            rotate_left
            · intro w9 hSw; (try dsimp only at hSw); go_simp; try with_reducible rfl
            try simp only [List.getElem_toArray, List.getElem_cons_succ, List.getElem_cons_zero, Act.put, List.setIfInBounds_toArray, List.set_cons_zero, List.set_cons_succ]
            refine wpAnyH_take (i := 11) (v := ?_) rfl (by kernel_rfl) (by kernel_rfl) (by kernel_rfl) (fun _ _ _ h => h) (Or.inl ⟨by rfl, ?_⟩) (by assumption) ?_
            rotate_left
            · intro w9 hSw; (try dsimp only at hSw); go_simp; try with_reducible rfl
            try simp only [List.getElem_toArray, List.getElem_cons_succ, List.getElem_cons_zero, Act.put, List.setIfInBounds_toArray, List.set_cons_zero, List.set_cons_succ]
            refine wpAnyH_ready (rs := [13]) (by kernel_rfl) (by simp) ?_
            refine AllReadyH.cons rfl (fun K hK => ?_) ?_
            · go_simp
              refine hK.out _ _ ?_ (fun hHeld => ?_)
              · exact ⟨cell_set (cell_set hbx.1 (by first | (simp; done) | (simp; omega) | omega) _) (by first | (simp; done) | (simp; omega) | omega) _, cell_set (cell_set hbx.2.1 (by first | (simp; done) | (simp; omega) | omega) _) (by first | (simp; done) | (simp; omega) | omega) _, cell_set (cell_set hbx.2.2.1 (by first | (simp; done) | (simp; omega) | omega) _) (by first | (simp; done) | (simp; omega) | omega) _, cell_set (cell_set hbx.2.2.2.1 (by first | (simp; done) | (simp; omega) | omega) _) (by first | (simp; done) | (simp; omega) | omega) _, (hbx.2.2.2.2.setCell (by simp) _).setCell (by simp) _⟩
              clear hK K
              try simp only [List.getElem_toArray, List.getElem_cons_succ, List.getElem_cons_zero, Act.put, List.setIfInBounds_toArray, List.set_cons_zero, List.set_cons_succ]
              refine wpAnyH_take (i := 14) (v := ?_) rfl (by kernel_rfl) (by kernel_rfl) (by kernel_rfl) (fun _ _ _ h => h) (Or.inl ⟨by rfl, ?_⟩) (by assumption) ?_
              rotate_left
              · intro w9 hSw; (try dsimp only at hSw); go_simp; try with_reducible rfl
              try simp only [List.getElem_toArray, List.getElem_cons_succ, List.getElem_cons_zero, Act.put, List.setIfInBounds_toArray, List.set_cons_zero, List.set_cons_succ]
              refine wpAnyH_take (i := 15) (v := ?_) rfl (by kernel_rfl) (by kernel_rfl) (by kernel_rfl) (fun _ _ _ h => h) (Or.inl ⟨by rfl, ?_⟩) (by assumption) ?_
              rotate_left
              · intro w9 hSw; (try dsimp only at hSw); go_simp; try with_reducible rfl
              try simp only [List.getElem_toArray, List.getElem_cons_succ, List.getElem_cons_zero, Act.put, List.setIfInBounds_toArray, List.set_cons_zero, List.set_cons_succ]
              refine wpAnyH_done (by kernel_rfl) ?_ _
              refine NoPanic.normal ?_
              have HN5 := Lib.hid (show ((va.setCell ⟨wr.heap.size, 0, none⟩ (.slice p1 (stW ws b r y).length q1)).setCell ⟨wr.heap.size, 1, none⟩ (.int .i64 (stV ws b r y))).cell? ⟨wr.heap.size, 0, none⟩ = some (.slice p1 (stW ws b r y).length q1) ∧ ((va.setCell ⟨wr.heap.size, 0, none⟩ (.slice p1 (stW ws b r y).length q1)).setCell ⟨wr.heap.size, 1, none⟩ (.int .i64 (stV ws b r y))).cell? ⟨wr.heap.size, 1, none⟩ = some (.int .i64 (stV ws b r y)) from ⟨(World.cell?_setCell_other _ _ _ _ (by simp)).trans (World.cell?_setCell_same _ _ _ y8), World.cell?_setCell_same _ _ _ ((World.cell?_setCell_other _ _ _ _ (by simp)).trans y9)⟩)
              have HB6 := Lib.hid hHeld.2.2.2.2
              have hNB : wr.heap.size ≤ wr.heap.size ∧ wr.heap.size < ((va.setCell ⟨wr.heap.size, 0, none⟩ (.slice p1 (stW ws b r y).length q1)).setCell ⟨wr.heap.size, 1, none⟩ (.int .i64 (stV ws b r y))).heap.size := ⟨by have := hbx.2.2.2.2.size; omega, by first | (simp; done) | (have := hbb.size; simp at this ⊢; omega)⟩
              have HON := Lib.hid (show OwnI wr.heap.size ((va.setCell ⟨wr.heap.size, 0, none⟩ (.slice p1 (stW ws b r y).length q1)).setCell ⟨wr.heap.size, 1, none⟩ (.int .i64 (stV ws b r y))).heap.size ((va.setCell ⟨wr.heap.size, 0, none⟩ (.slice p1 (stW ws b r y).length q1)).setCell ⟨wr.heap.size, 1, none⟩ (.int .i64 (stV ws b r y))) (.slice p1 (stW ws b r y).length q1) (stW ws b r y) from (by simp only [size_set]; exact ((hoN.set (a := ⟨wr.heap.size, 0, none⟩) (by simp) _).set (a := ⟨wr.heap.size, 1, none⟩) (by simp) _).mono (by simp) (Nat.le_refl _)))
              clear hHeld hbx hbb HT hoN y8 y9 z8 z9
              generalize ((va.setCell ⟨wr.heap.size, 0, none⟩ (.slice p1 (stW ws b r y).length q1)).setCell ⟨wr.heap.size, 1, none⟩ (.int .i64 (stV ws b r y))) = w5 at *
              have n0 := HN5.out.1
              have n1 := HN5.out.2
              have hs5 := HB6.out.size
              obtain ⟨u0, u1, u2, u3, u4, u5, u6, u7⟩ := (show w5.cell? ⟨w.heap.size, 0, none⟩ = some (.slice (some ⟨bl, off, none⟩) rows.length c) ∧ w5.cell? ⟨w.heap.size, 1, none⟩ = some (.slice (some ⟨lb, lo, none⟩) zs.length c') ∧ w5.cell? ⟨w.heap.size + 2, 0, none⟩ = some (.slice none 0 0) ∧ w5.cell? ⟨w.heap.size + 2, 1, none⟩ = some (.int .i64 0) ∧ w5.frozen? ⟨w.heap.size + 2, 0, none⟩ = false ∧ w5.frozen? ⟨w.heap.size + 2, 1, none⟩ = false ∧ w5.frozen? ⟨w.heap.size + 1, 0, none⟩ = false ∧ w5.frozen? ⟨w.heap.size + 1, 1, none⟩ = false from ⟨cell_below HB6.out HX.out.1 (by omega), cell_below HB6.out HX.out.2.1 (by omega), cell_below HB6.out HX.out.2.2.1 (by omega), cell_below HB6.out HX.out.2.2.2.1 (by omega), fro_below HB6.out HX.out.2.2.2.2.1 (by omega), fro_below HB6.out HX.out.2.2.2.2.2.1 (by omega), fro_below HB6.out HX.out.2.2.2.2.2.2.1 (by omega), fro_below HB6.out HX.out.2.2.2.2.2.2.2 (by omega)⟩)
              have HX5 := Lib.hid (And.intro u0 (And.intro u1 (And.intro u2 (And.intro u3 (And.intro u4 (And.intro u5 (And.intro u6 u7)))))))
              have HBW := Lib.hid (HBl.out.trans (HB6.out.mono (by have := HBl.out.size; omega)))
              have hbr := HBl.out.size
              have HT5 := Lib.hid (HTR.out.below (by omega) HB6.out)
              have HC5 := Lib.hid (HCG.out.trans (Chg.of HB6.out tv))
              have q0 := cell_below HB6.out y0 (by omega)
              have q1' := cell_below HB6.out y1 (by omega)
              clear u0 u1 u2 u3 u4 u5
              generalize stW ws b r y = zz at *
              generalize stV ws b r y = bb at *
              have HREL2 := Lib.hid (show (((w5.setCell ⟨w.heap.size + 1, 0, none⟩ (.slice p1 zz.length q1)).setCell ⟨w.heap.size + 1, 1, none⟩ (.int .i64 bb)).cell? ⟨w.heap.size + 1, 0, none⟩ = some (.slice p1 zz.length q1) ∧ ((w5.setCell ⟨w.heap.size + 1, 0, none⟩ (.slice p1 zz.length q1)).setCell ⟨w.heap.size + 1, 1, none⟩ (.int .i64 bb)).cell? ⟨w.heap.size + 1, 1, none⟩ = some (.int .i64 bb)) ∧ OwnI (w.heap.size + 3) ((w5.setCell ⟨w.heap.size + 1, 0, none⟩ (.slice p1 zz.length q1)).setCell ⟨w.heap.size + 1, 1, none⟩ (.int .i64 bb)).heap.size ((w5.setCell ⟨w.heap.size + 1, 0, none⟩ (.slice p1 zz.length q1)).setCell ⟨w.heap.size + 1, 1, none⟩ (.int .i64 bb)) (.slice p1 zz.length q1) zz from ⟨⟨(World.cell?_setCell_other _ _ _ _ (by simp)).trans (World.cell?_setCell_same _ _ _ q0), World.cell?_setCell_same _ _ _ ((World.cell?_setCell_other _ _ _ _ (by simp)).trans q1')⟩, by simp only [size_set]; exact ((HON.out.set (by simp; omega) _).set (by simp; omega) _).mono (by omega) (Nat.le_refl _)⟩)
              have HX6 := Lib.hid (show ((w5.setCell ⟨w.heap.size + 1, 0, none⟩ (.slice p1 zz.length q1)).setCell ⟨w.heap.size + 1, 1, none⟩ (.int .i64 bb)).cell? ⟨w.heap.size, 0, none⟩ = some (.slice (some ⟨bl, off, none⟩) rows.length c) ∧ ((w5.setCell ⟨w.heap.size + 1, 0, none⟩ (.slice p1 zz.length q1)).setCell ⟨w.heap.size + 1, 1, none⟩ (.int .i64 bb)).cell? ⟨w.heap.size, 1, none⟩ = some (.slice (some ⟨lb, lo, none⟩) zs.length c') ∧ ((w5.setCell ⟨w.heap.size + 1, 0, none⟩ (.slice p1 zz.length q1)).setCell ⟨w.heap.size + 1, 1, none⟩ (.int .i64 bb)).cell? ⟨w.heap.size + 2, 0, none⟩ = some (.slice none 0 0) ∧ ((w5.setCell ⟨w.heap.size + 1, 0, none⟩ (.slice p1 zz.length q1)).setCell ⟨w.heap.size + 1, 1, none⟩ (.int .i64 bb)).cell? ⟨w.heap.size + 2, 1, none⟩ = some (.int .i64 0) ∧ ((w5.setCell ⟨w.heap.size + 1, 0, none⟩ (.slice p1 zz.length q1)).setCell ⟨w.heap.size + 1, 1, none⟩ (.int .i64 bb)).frozen? ⟨w.heap.size + 2, 0, none⟩ = false ∧ ((w5.setCell ⟨w.heap.size + 1, 0, none⟩ (.slice p1 zz.length q1)).setCell ⟨w.heap.size + 1, 1, none⟩ (.int .i64 bb)).frozen? ⟨w.heap.size + 2, 1, none⟩ = false ∧ ((w5.setCell ⟨w.heap.size + 1, 0, none⟩ (.slice p1 zz.length q1)).setCell ⟨w.heap.size + 1, 1, none⟩ (.int .i64 bb)).frozen? ⟨w.heap.size + 1, 0, none⟩ = false ∧ ((w5.setCell ⟨w.heap.size + 1, 0, none⟩ (.slice p1 zz.length q1)).setCell ⟨w.heap.size + 1, 1, none⟩ (.int .i64 bb)).frozen? ⟨w.heap.size + 1, 1, none⟩ = false from ⟨cell_set (cell_set HX5.out.1 (by first | (simp; done) | (simp; omega) | omega) _) (by first | (simp; done) | (simp; omega) | omega) _, cell_set (cell_set HX5.out.2.1 (by first | (simp; done) | (simp; omega) | omega) _) (by first | (simp; done) | (simp; omega) | omega) _, cell_set (cell_set HX5.out.2.2.1 (by first | (simp; done) | (simp; omega) | omega) _) (by first | (simp; done) | (simp; omega) | omega) _, cell_set (cell_set HX5.out.2.2.2.1 (by first | (simp; done) | (simp; omega) | omega) _) (by first | (simp; done) | (simp; omega) | omega) _, by rw [World.frozen?_setCell, World.frozen?_setCell]; exact HX5.out.2.2.2.2.1, by rw [World.frozen?_setCell, World.frozen?_setCell]; exact HX5.out.2.2.2.2.2.1, by rw [World.frozen?_setCell, World.frozen?_setCell]; exact HX5.out.2.2.2.2.2.2.1, by rw [World.frozen?_setCell, World.frozen?_setCell]; exact HX5.out.2.2.2.2.2.2.2⟩)
              have HBW6 := Lib.hid (show Below b0.heap.size b0 ((w5.setCell ⟨w.heap.size + 1, 0, none⟩ (.slice p1 zz.length q1)).setCell ⟨w.heap.size + 1, 1, none⟩ (.int .i64 bb)) from (HBW.out.setCell (by simp; omega) _).setCell (by simp; omega) _)
              have HT6 := Lib.hid (show Tr K b0.heap.size ((w5.setCell ⟨w.heap.size + 1, 0, none⟩ (.slice p1 zz.length q1)).setCell ⟨w.heap.size + 1, 1, none⟩ (.int .i64 bb)) tv str from (HT5.out.set (by simp; omega) (fun e => (HNB.out _ e).2.1 rfl) _).set (by simp; omega) (fun e => (HNB.out _ e).2.1 rfl) _)
              have HC6 := Lib.hid (show Chg K w ((w5.setCell ⟨w.heap.size + 1, 0, none⟩ (.slice p1 zz.length q1)).setCell ⟨w.heap.size + 1, 1, none⟩ (.int .i64 bb)) tv0 tv from (HC5.out.set (by first | (simp; done) | (simp; omega)) _).set (by first | (simp; done) | (simp; omega)) _)
              have HPN := Lib.hid (show ∀ g, (Value.slice p1 zz.length q1).ownBlock = some g → wr.heap.size ≤ g from fun g e => (HON.out.lt e).1)
              have HS6 := Lib.hid (show w.heap.size + 2 < ((w5.setCell ⟨w.heap.size + 1, 0, none⟩ (.slice p1 zz.length q1)).setCell ⟨w.heap.size + 1, 1, none⟩ (.int .i64 bb)).heap.size from by rw [size_set, size_set]; omega)
              have HSP := Lib.hid (show (inn rows zs st (k + 1)).p = (zz, bb) from HST.out)
              go_wp2_with fail
              go_roundw
              case rel => exact ⟨k + 1, by omega, by first | (rw [HCN.out]; done) | (rw [HCN.out]; rfl) | (rw [HCN.out]; congr 1), by go_num, HOK2, Lib.hid (by rw [HSP.out]; exact ⟨p1, q1, HREL2.out.1, HREL2.out.2.reads, fun _ => HREL2.out.2⟩), HX6, HBW6, Lib.hid (by rw [HTN.out]; exact ⟨tv, HT6.out, HC6.out, HNB.out⟩), HS6⟩
              case measure => simp [intOf]; omega
            exact AllReadyH.nil
          exact AllReadyH.nil
        exact AllReadyH.nil
    · obtain rfl : k = rows.length := by omega
      have HO := Lib.hid (hpo HF.out.pos)
      have HOKT := Lib.hid (okTo_of HOK.out)
      obtain ⟨y0, y1⟩ := hpc
      have x2_0 := HX.out.2.2.1
      have x2_1 := HX.out.2.2.2.1
      have f2_0 := HX.out.2.2.2.2.1
      have f2_1 := HX.out.2.2.2.2.2.1
      clear hpo hpr
      have HPO := Lib.hid (show ∀ e w', Below b0.heap.size b0 w' → Chg K w w' tv0 tv → Tr K b0.heap.size w' tv (inn rows zs st rows.length).tr → (∃ v, e = .returned (.tuple #[.agg #[v, .int .i64 (inn rows zs st rows.length).p.2], .int .i64 (cn rows zs st rows.length), .bool true]) ∧ OwnI w.heap.size w'.heap.size w' v (inn rows zs st rows.length).p.1) → PostRound K b0 tv0 rows zs st w e w' from fun e w' h1 h3 h4 h2 => ⟨tv, h1, h3, fun _ => ⟨h2, h4⟩, fun h => by rw [HOKT.out] at h; cases h⟩)
      generalize (inn rows zs st rows.length).tr = TT at *
      clear htrl
      generalize (inn rows zs st rows.length).p = pp at *
      obtain ⟨ws, b⟩ := pp
      dsimp only at *
      generalize cn rows zs st rows.length = cnt at *
      go_wp2_with fail
      refine bodyPost_ret (v := .tuple #[.agg #[.slice pv ws.length qv, .int .i64 b], .int .i64 (cnt : Int), .bool true]) (by simp [results, Try.results142, go_sem, x2_0, x2_1]) rfl (HPO.out _ _ ?_ ((HCG.out.set (by first | (simp; done) | (simp; omega)) _).set (by first | (simp; done) | (simp; omega)) _) ((HTR.out.set (by simp; omega) (fun e => (HNB.out _ e).2.2 rfl) _).set (by simp; omega) (fun e => (HNB.out _ e).2.2 rfl) _) ⟨_, rfl, ?_⟩)
      · exact (HBl.out.setCell (by simp; omega) _).setCell (by simp; omega) _
      · simp only [size_set]
        exact ((HO.out.set (by simp) _).set (by simp) _).mono (by omega) (Nat.le_refl _)
end Go.Proofs.Ytocbklmkphgkeaa.walkt

namespace Go.Proofs.Ytocbklmkphgkeaa.walkt
open Go.RowKit own own1 pp nums dots fill step range kept samplest samplesv planes runp made
open walkr (own_grown)
set_option linter.unusedVariables false
set_option linter.unusedSimpArgs false
attribute [local go_sem ↓] Go.wp_at_zero Go.wp_at_succ

/-- How a run comes back. -/
def PostT (K : Nat) (b0 : World) (ok : Bool) (TT : List Int) (w : World) (e : Ending) (w' : World) : Prop :=
  ∃ tv', Below b0.heap.size b0 w' ∧ (ok = true → (∃ (p : Option Addr) (n q : Nat) (b : Int) (y : Value), e = .returned (.tuple #[.agg #[.slice p n q, .int .i64 b], y, .bool true])) ∧ Tr K b0.heap.size w' tv' TT) ∧
    (ok = false → ∃ y, e = .returned (.tuple #[.agg #[.slice none 0 0, .int .i64 0], y, .bool false]))
set_option maxRecDepth 100000 in
set_option maxHeartbeats 4000000 in
theorem run_no1 (K : Nat) (b0 : World) (tv0 : Value) (a : Option Addr) (rows : List (List Int)) (c : Nat) (a' : Option Addr) (zs : List Int) (c' : Nat) (r : Int) (w : World) (hr : grid.Reads b0 a rows) (hz : ints.Reads .i64 b0 a' zs) (hL : Below b0.heap.size b0 w) (hT : Tr K b0.heap.size w tv0 []) (hK : K < w.heap.size) (hKl : b0.heap.size ≤ K) (hn : rows.length ≤ 1048576) (hk : zs.length ≤ 1048576) (hm : ∀ r ∈ rows, r.length ≤ 1048576) (h : Hid (margin.hpB rows zs = false)) :
    Calls Try.prog 112 #[.agg #[.slice a rows.length c, .slice a' zs.length c'], .int .i64 r, .func (.func 114) #[] #[.pointer (some ⟨K, 0, none⟩)]] w (PostT K b0 false [] w) := by
  have HMM := Lib.hid hm
  clear hm
  have hbw := hL.size
  have HL := Lib.hid hL
  have HT := Lib.hid hT
  clear hL hT
  have Hhr := Lib.hid hr
  have Hhz := Lib.hid hz
  clear hr hz
  go_enter Try.func112, Try.ntmps112
  go_wp2_with fail
  have x0_0 : (w.alloc (.cells #[.slice a rows.length c, .slice a' zs.length c'] 27)).cell? ⟨w.heap.size, 0, none⟩ = some (.slice a rows.length c) := cell_new _ _ _ (by simp) rfl
  have x0_1 : (w.alloc (.cells #[.slice a rows.length c, .slice a' zs.length c'] 27)).cell? ⟨w.heap.size, 1, none⟩ = some (.slice a' zs.length c') := cell_new _ _ _ (by simp) rfl
  have HB0 := Lib.hid (below_alloc w (.cells #[.slice a rows.length c, .slice a' zs.length c'] 27))
  replace x0_0 := cell_old (.cells #[.slice none 0 0, .int .i64 0] 46) x0_0
  replace x0_1 := cell_old (.cells #[.slice none 0 0, .int .i64 0] 46) x0_1
  have x1_0 : ((w.alloc (.cells #[.slice a rows.length c, .slice a' zs.length c'] 27)).alloc (.cells #[.slice none 0 0, .int .i64 0] 46)).cell? ⟨w.heap.size + 1, 0, none⟩ = some (.slice none 0 0) := cell_new _ _ _ (by simp) rfl
  have x1_1 : ((w.alloc (.cells #[.slice a rows.length c, .slice a' zs.length c'] 27)).alloc (.cells #[.slice none 0 0, .int .i64 0] 46)).cell? ⟨w.heap.size + 1, 1, none⟩ = some (.int .i64 0) := cell_new _ _ _ (by simp) rfl
  have f1_0 : ((w.alloc (.cells #[.slice a rows.length c, .slice a' zs.length c'] 27)).alloc (.cells #[.slice none 0 0, .int .i64 0] 46)).frozen? ⟨w.heap.size + 1, 0, none⟩ = false := fro_new _ _ _ (by simp)
  have f1_1 : ((w.alloc (.cells #[.slice a rows.length c, .slice a' zs.length c'] 27)).alloc (.cells #[.slice none 0 0, .int .i64 0] 46)).frozen? ⟨w.heap.size + 1, 1, none⟩ = false := fro_new _ _ _ (by simp)
  replace HB0 := Lib.hid (HB0.out.alloc (by simp) (.cells #[.slice none 0 0, .int .i64 0] 46))
  have s0 : w.heap.size + 2 ≤ ((w.alloc (.cells #[.slice a rows.length c, .slice a' zs.length c'] 27)).alloc (.cells #[.slice none 0 0, .int .i64 0] 46)).heap.size := by simp
  generalize hw : ((w.alloc (.cells #[.slice a rows.length c, .slice a' zs.length c'] 27)).alloc (.cells #[.slice none 0 0, .int .i64 0] 46)) = w0 at *
  clear hw
  have n0_0 : w.heap.size < w0.heap.size := by omega
  have n0_1 : w.heap.size + 1 < w0.heap.size := by omega
  refine (margin.impl_hasPoints a rows c a' zs c' _ (Hhr.out.below (HL.out.trans (HB0.out.mono hbw))) (Hhz.out.below (HL.out.trans (HB0.out.mono hbw))) hn hk HMM.out false h).mono ?_
  rintro e w1 ⟨rfl, hb⟩
  have s1 : w0.heap.size ≤ w1.heap.size := hb.size
  have n1_0 : w.heap.size < w1.heap.size := by omega
  have n1_1 : w.heap.size + 1 < w1.heap.size := by omega
  replace x0_0 := cell_below hb x0_0 (by omega)
  replace x0_1 := cell_below hb x0_1 (by omega)
  replace x1_0 := cell_below hb x1_0 (by omega)
  replace x1_1 := cell_below hb x1_1 (by omega)
  replace f1_0 := fro_below hb f1_0 (by omega)
  replace f1_1 := fro_below hb f1_1 (by omega)
  have HB1 := Lib.hid (HB0.out.trans (hb.mono (by omega)))
  clear hb
  go_wp2_with fail
  have q0 : (((w1.setCell ⟨w.heap.size + 1, 0, none⟩ (.slice none 0 0)).setCell ⟨w.heap.size + 1, 1, none⟩ (.int .i64 0)).alloc (.cells #[] 3)).cell? ⟨w.heap.size + 1, 0, none⟩ = some (.slice none 0 0) := cell_old _ ((World.cell?_setCell_other _ _ _ _ (by simp)).trans (World.cell?_setCell_same _ _ _ x1_0))
  have q1 : (((w1.setCell ⟨w.heap.size + 1, 0, none⟩ (.slice none 0 0)).setCell ⟨w.heap.size + 1, 1, none⟩ (.int .i64 0)).alloc (.cells #[] 3)).cell? ⟨w.heap.size + 1, 1, none⟩ = some (.int .i64 0) := cell_old _ (World.cell?_setCell_same _ _ _ ((World.cell?_setCell_other _ _ _ _ (by simp)).trans x1_1))
  have hx9 : ((w1.setCell ⟨w.heap.size + 1, 0, none⟩ (.slice none 0 0)).setCell ⟨w.heap.size + 1, 1, none⟩ (.int .i64 0)).heap.size = w1.heap.size := by rw [size_set, size_set]
  have ho9 := own_empty ((w1.setCell ⟨w.heap.size + 1, 0, none⟩ (.slice none 0 0)).setCell ⟨w.heap.size + 1, 1, none⟩ (.int .i64 0))
  rw [hx9] at ho9
  have HF9 := Lib.hid (show PostT K b0 false [] w (.returned (.tuple #[.agg #[.slice none 0 0, .int .i64 0], .slice (some ⟨w1.heap.size, 0, none⟩) 0 0, .bool false])) (((w1.setCell ⟨w.heap.size + 1, 0, none⟩ (.slice none 0 0)).setCell ⟨w.heap.size + 1, 1, none⟩ (.int .i64 0)).alloc (.cells #[] 3)) from ⟨tv0, HL.out.trans ((((HB1.out.setCell (by simp) _).setCell (by simp) _).alloc (by rw [hx9]; omega) _).mono hbw), (fun h => by cases h), fun _ => ⟨_, rfl⟩⟩)
  refine bodyPost_ret (v := .tuple #[.agg #[.slice none 0 0, .int .i64 0], .slice (some ⟨w1.heap.size, 0, none⟩) 0 0, .bool false]) (by simp [results, Try.results112, go_sem, q0, q1]) rfl HF9.out
set_option maxRecDepth 100000 in
set_option maxHeartbeats 4000000 in
theorem run_no2 (K : Nat) (b0 : World) (tv0 : Value) (a : Option Addr) (rows : List (List Int)) (c : Nat) (a' : Option Addr) (zs : List Int) (c' : Nat) (r : Int) (w : World) (hr : grid.Reads b0 a rows) (hz : ints.Reads .i64 b0 a' zs) (hL : Below b0.heap.size b0 w) (hT : Tr K b0.heap.size w tv0 []) (hK : K < w.heap.size) (hKl : b0.heap.size ≤ K) (hn : rows.length ≤ 1048576) (hk : zs.length ≤ 1048576) (hm : ∀ r ∈ rows, r.length ≤ 1048576) (h1 : Hid (margin.hpB rows zs = true)) (h : r < 1) :
    Calls Try.prog 112 #[.agg #[.slice a rows.length c, .slice a' zs.length c'], .int .i64 r, .func (.func 114) #[] #[.pointer (some ⟨K, 0, none⟩)]] w (PostT K b0 false [] w) := by
  have HMM := Lib.hid hm
  clear hm
  have hbw := hL.size
  have HL := Lib.hid hL
  have HT := Lib.hid hT
  clear hL hT
  have g1 : decide (r < 1) = true := decide_eq_true h
  have Hhr := Lib.hid hr
  have Hhz := Lib.hid hz
  clear hr hz
  go_enter Try.func112, Try.ntmps112
  go_wp2_with fail
  have x0_0 : (w.alloc (.cells #[.slice a rows.length c, .slice a' zs.length c'] 27)).cell? ⟨w.heap.size, 0, none⟩ = some (.slice a rows.length c) := cell_new _ _ _ (by simp) rfl
  have x0_1 : (w.alloc (.cells #[.slice a rows.length c, .slice a' zs.length c'] 27)).cell? ⟨w.heap.size, 1, none⟩ = some (.slice a' zs.length c') := cell_new _ _ _ (by simp) rfl
  have HB0 := Lib.hid (below_alloc w (.cells #[.slice a rows.length c, .slice a' zs.length c'] 27))
  replace x0_0 := cell_old (.cells #[.slice none 0 0, .int .i64 0] 46) x0_0
  replace x0_1 := cell_old (.cells #[.slice none 0 0, .int .i64 0] 46) x0_1
  have x1_0 : ((w.alloc (.cells #[.slice a rows.length c, .slice a' zs.length c'] 27)).alloc (.cells #[.slice none 0 0, .int .i64 0] 46)).cell? ⟨w.heap.size + 1, 0, none⟩ = some (.slice none 0 0) := cell_new _ _ _ (by simp) rfl
  have x1_1 : ((w.alloc (.cells #[.slice a rows.length c, .slice a' zs.length c'] 27)).alloc (.cells #[.slice none 0 0, .int .i64 0] 46)).cell? ⟨w.heap.size + 1, 1, none⟩ = some (.int .i64 0) := cell_new _ _ _ (by simp) rfl
  have f1_0 : ((w.alloc (.cells #[.slice a rows.length c, .slice a' zs.length c'] 27)).alloc (.cells #[.slice none 0 0, .int .i64 0] 46)).frozen? ⟨w.heap.size + 1, 0, none⟩ = false := fro_new _ _ _ (by simp)
  have f1_1 : ((w.alloc (.cells #[.slice a rows.length c, .slice a' zs.length c'] 27)).alloc (.cells #[.slice none 0 0, .int .i64 0] 46)).frozen? ⟨w.heap.size + 1, 1, none⟩ = false := fro_new _ _ _ (by simp)
  replace HB0 := Lib.hid (HB0.out.alloc (by simp) (.cells #[.slice none 0 0, .int .i64 0] 46))
  have s0 : w.heap.size + 2 ≤ ((w.alloc (.cells #[.slice a rows.length c, .slice a' zs.length c'] 27)).alloc (.cells #[.slice none 0 0, .int .i64 0] 46)).heap.size := by simp
  generalize hw : ((w.alloc (.cells #[.slice a rows.length c, .slice a' zs.length c'] 27)).alloc (.cells #[.slice none 0 0, .int .i64 0] 46)) = w0 at *
  clear hw
  have n0_0 : w.heap.size < w0.heap.size := by omega
  have n0_1 : w.heap.size + 1 < w0.heap.size := by omega
  refine (margin.impl_hasPoints a rows c a' zs c' _ (Hhr.out.below (HL.out.trans (HB0.out.mono hbw))) (Hhz.out.below (HL.out.trans (HB0.out.mono hbw))) hn hk HMM.out true h1).mono ?_
  rintro e w1 ⟨rfl, hb⟩
  have s1 : w0.heap.size ≤ w1.heap.size := hb.size
  have n1_0 : w.heap.size < w1.heap.size := by omega
  have n1_1 : w.heap.size + 1 < w1.heap.size := by omega
  replace x0_0 := cell_below hb x0_0 (by omega)
  replace x0_1 := cell_below hb x0_1 (by omega)
  replace x1_0 := cell_below hb x1_0 (by omega)
  replace x1_1 := cell_below hb x1_1 (by omega)
  replace f1_0 := fro_below hb f1_0 (by omega)
  replace f1_1 := fro_below hb f1_1 (by omega)
  have HB1 := Lib.hid (HB0.out.trans (hb.mono (by omega)))
  clear hb
  go_wp2_with fail
  have q0 : (((w1.setCell ⟨w.heap.size + 1, 0, none⟩ (.slice none 0 0)).setCell ⟨w.heap.size + 1, 1, none⟩ (.int .i64 0)).alloc (.cells #[] 3)).cell? ⟨w.heap.size + 1, 0, none⟩ = some (.slice none 0 0) := cell_old _ ((World.cell?_setCell_other _ _ _ _ (by simp)).trans (World.cell?_setCell_same _ _ _ x1_0))
  have q1 : (((w1.setCell ⟨w.heap.size + 1, 0, none⟩ (.slice none 0 0)).setCell ⟨w.heap.size + 1, 1, none⟩ (.int .i64 0)).alloc (.cells #[] 3)).cell? ⟨w.heap.size + 1, 1, none⟩ = some (.int .i64 0) := cell_old _ (World.cell?_setCell_same _ _ _ ((World.cell?_setCell_other _ _ _ _ (by simp)).trans x1_1))
  have hx9 : ((w1.setCell ⟨w.heap.size + 1, 0, none⟩ (.slice none 0 0)).setCell ⟨w.heap.size + 1, 1, none⟩ (.int .i64 0)).heap.size = w1.heap.size := by rw [size_set, size_set]
  have ho9 := own_empty ((w1.setCell ⟨w.heap.size + 1, 0, none⟩ (.slice none 0 0)).setCell ⟨w.heap.size + 1, 1, none⟩ (.int .i64 0))
  rw [hx9] at ho9
  have HF9 := Lib.hid (show PostT K b0 false [] w (.returned (.tuple #[.agg #[.slice none 0 0, .int .i64 0], .slice (some ⟨w1.heap.size, 0, none⟩) 0 0, .bool false])) (((w1.setCell ⟨w.heap.size + 1, 0, none⟩ (.slice none 0 0)).setCell ⟨w.heap.size + 1, 1, none⟩ (.int .i64 0)).alloc (.cells #[] 3)) from ⟨tv0, HL.out.trans ((((HB1.out.setCell (by simp) _).setCell (by simp) _).alloc (by rw [hx9]; omega) _).mono hbw), (fun h => by cases h), fun _ => ⟨_, rfl⟩⟩)
  refine bodyPost_ret (v := .tuple #[.agg #[.slice none 0 0, .int .i64 0], .slice (some ⟨w1.heap.size, 0, none⟩) 0 0, .bool false]) (by simp [results, Try.results112, go_sem, q0, q1]) rfl HF9.out
set_option maxRecDepth 100000 in
set_option maxHeartbeats 4000000 in
theorem run_no3 (K : Nat) (b0 : World) (tv0 : Value) (a : Option Addr) (rows : List (List Int)) (c : Nat) (a' : Option Addr) (zs : List Int) (c' : Nat) (r : Int) (w : World) (hr : grid.Reads b0 a rows) (hz : ints.Reads .i64 b0 a' zs) (hL : Below b0.heap.size b0 w) (hT : Tr K b0.heap.size w tv0 []) (hK : K < w.heap.size) (hKl : b0.heap.size ≤ K) (hn : rows.length ≤ 1048576) (hk : zs.length ≤ 1048576) (hm : ∀ r ∈ rows, r.length ≤ 1048576) (h1 : Hid (margin.hpB rows zs = true)) (h0 : ¬ r < 1) (h : 12 < r) :
    Calls Try.prog 112 #[.agg #[.slice a rows.length c, .slice a' zs.length c'], .int .i64 r, .func (.func 114) #[] #[.pointer (some ⟨K, 0, none⟩)]] w (PostT K b0 false [] w) := by
  have HMM := Lib.hid hm
  clear hm
  have hbw := hL.size
  have HL := Lib.hid hL
  have HT := Lib.hid hT
  clear hL hT
  have g1 : decide (r < 1) = false := decide_eq_false h0
  have g2 : decide (12 < r) = true := decide_eq_true h
  have Hhr := Lib.hid hr
  have Hhz := Lib.hid hz
  clear hr hz
  go_enter Try.func112, Try.ntmps112
  go_wp2_with fail
  have x0_0 : (w.alloc (.cells #[.slice a rows.length c, .slice a' zs.length c'] 27)).cell? ⟨w.heap.size, 0, none⟩ = some (.slice a rows.length c) := cell_new _ _ _ (by simp) rfl
  have x0_1 : (w.alloc (.cells #[.slice a rows.length c, .slice a' zs.length c'] 27)).cell? ⟨w.heap.size, 1, none⟩ = some (.slice a' zs.length c') := cell_new _ _ _ (by simp) rfl
  have HB0 := Lib.hid (below_alloc w (.cells #[.slice a rows.length c, .slice a' zs.length c'] 27))
  replace x0_0 := cell_old (.cells #[.slice none 0 0, .int .i64 0] 46) x0_0
  replace x0_1 := cell_old (.cells #[.slice none 0 0, .int .i64 0] 46) x0_1
  have x1_0 : ((w.alloc (.cells #[.slice a rows.length c, .slice a' zs.length c'] 27)).alloc (.cells #[.slice none 0 0, .int .i64 0] 46)).cell? ⟨w.heap.size + 1, 0, none⟩ = some (.slice none 0 0) := cell_new _ _ _ (by simp) rfl
  have x1_1 : ((w.alloc (.cells #[.slice a rows.length c, .slice a' zs.length c'] 27)).alloc (.cells #[.slice none 0 0, .int .i64 0] 46)).cell? ⟨w.heap.size + 1, 1, none⟩ = some (.int .i64 0) := cell_new _ _ _ (by simp) rfl
  have f1_0 : ((w.alloc (.cells #[.slice a rows.length c, .slice a' zs.length c'] 27)).alloc (.cells #[.slice none 0 0, .int .i64 0] 46)).frozen? ⟨w.heap.size + 1, 0, none⟩ = false := fro_new _ _ _ (by simp)
  have f1_1 : ((w.alloc (.cells #[.slice a rows.length c, .slice a' zs.length c'] 27)).alloc (.cells #[.slice none 0 0, .int .i64 0] 46)).frozen? ⟨w.heap.size + 1, 1, none⟩ = false := fro_new _ _ _ (by simp)
  replace HB0 := Lib.hid (HB0.out.alloc (by simp) (.cells #[.slice none 0 0, .int .i64 0] 46))
  have s0 : w.heap.size + 2 ≤ ((w.alloc (.cells #[.slice a rows.length c, .slice a' zs.length c'] 27)).alloc (.cells #[.slice none 0 0, .int .i64 0] 46)).heap.size := by simp
  generalize hw : ((w.alloc (.cells #[.slice a rows.length c, .slice a' zs.length c'] 27)).alloc (.cells #[.slice none 0 0, .int .i64 0] 46)) = w0 at *
  clear hw
  have n0_0 : w.heap.size < w0.heap.size := by omega
  have n0_1 : w.heap.size + 1 < w0.heap.size := by omega
  refine (margin.impl_hasPoints a rows c a' zs c' _ (Hhr.out.below (HL.out.trans (HB0.out.mono hbw))) (Hhz.out.below (HL.out.trans (HB0.out.mono hbw))) hn hk HMM.out true h1).mono ?_
  rintro e w1 ⟨rfl, hb⟩
  have s1 : w0.heap.size ≤ w1.heap.size := hb.size
  have n1_0 : w.heap.size < w1.heap.size := by omega
  have n1_1 : w.heap.size + 1 < w1.heap.size := by omega
  replace x0_0 := cell_below hb x0_0 (by omega)
  replace x0_1 := cell_below hb x0_1 (by omega)
  replace x1_0 := cell_below hb x1_0 (by omega)
  replace x1_1 := cell_below hb x1_1 (by omega)
  replace f1_0 := fro_below hb f1_0 (by omega)
  replace f1_1 := fro_below hb f1_1 (by omega)
  have HB1 := Lib.hid (HB0.out.trans (hb.mono (by omega)))
  clear hb
  go_wp2_with fail
  have q0 : (((w1.setCell ⟨w.heap.size + 1, 0, none⟩ (.slice none 0 0)).setCell ⟨w.heap.size + 1, 1, none⟩ (.int .i64 0)).alloc (.cells #[] 3)).cell? ⟨w.heap.size + 1, 0, none⟩ = some (.slice none 0 0) := cell_old _ ((World.cell?_setCell_other _ _ _ _ (by simp)).trans (World.cell?_setCell_same _ _ _ x1_0))
  have q1 : (((w1.setCell ⟨w.heap.size + 1, 0, none⟩ (.slice none 0 0)).setCell ⟨w.heap.size + 1, 1, none⟩ (.int .i64 0)).alloc (.cells #[] 3)).cell? ⟨w.heap.size + 1, 1, none⟩ = some (.int .i64 0) := cell_old _ (World.cell?_setCell_same _ _ _ ((World.cell?_setCell_other _ _ _ _ (by simp)).trans x1_1))
  have hx9 : ((w1.setCell ⟨w.heap.size + 1, 0, none⟩ (.slice none 0 0)).setCell ⟨w.heap.size + 1, 1, none⟩ (.int .i64 0)).heap.size = w1.heap.size := by rw [size_set, size_set]
  have ho9 := own_empty ((w1.setCell ⟨w.heap.size + 1, 0, none⟩ (.slice none 0 0)).setCell ⟨w.heap.size + 1, 1, none⟩ (.int .i64 0))
  rw [hx9] at ho9
  have HF9 := Lib.hid (show PostT K b0 false [] w (.returned (.tuple #[.agg #[.slice none 0 0, .int .i64 0], .slice (some ⟨w1.heap.size, 0, none⟩) 0 0, .bool false])) (((w1.setCell ⟨w.heap.size + 1, 0, none⟩ (.slice none 0 0)).setCell ⟨w.heap.size + 1, 1, none⟩ (.int .i64 0)).alloc (.cells #[] 3)) from ⟨tv0, HL.out.trans ((((HB1.out.setCell (by simp) _).setCell (by simp) _).alloc (by rw [hx9]; omega) _).mono hbw), (fun h => by cases h), fun _ => ⟨_, rfl⟩⟩)
  refine bodyPost_ret (v := .tuple #[.agg #[.slice none 0 0, .int .i64 0], .slice (some ⟨w1.heap.size, 0, none⟩) 0 0, .bool false]) (by simp [results, Try.results112, go_sem, q0, q1]) rfl HF9.out
set_option maxRecDepth 100000 in
set_option maxHeartbeats 4000000 in
theorem run_main (K : Nat) (b0 : World) (tv0 : Value) (a : Option Addr) (rows : List (List Int)) (c : Nat) (a' : Option Addr) (zs : List Int) (c' : Nat) (r : Int) (w : World) (hr : grid.Reads b0 a rows) (hz : ints.Reads .i64 b0 a' zs) (hL : Below b0.heap.size b0 w) (hT : Tr K b0.heap.size w tv0 []) (hK : K < w.heap.size) (hKl : b0.heap.size ≤ K) (hn : rows.length ≤ 1048576) (hk : zs.length ≤ 1048576) (hm : ∀ r ∈ rows, r.length ≤ 1048576) (hB : rnB rows zs r = true) :
    Calls Try.prog 112 #[.agg #[.slice a rows.length c, .slice a' zs.length c'], .int .i64 r, .func (.func 114) #[] #[.pointer (some ⟨K, 0, none⟩)]] w (PostT K b0 (okR rows zs r) (fin rows zs r).tr w) := by
  have HMM := Lib.hid hm
  clear hm
  have hbw := hL.size
  have HL := Lib.hid hL
  have HT := Lib.hid hT
  clear hL hT
  obtain ⟨hF, R, rfl, hR1, hR2⟩ := rf_of hB
  have hp := Lib.hid (show margin.hpB rows zs = true from by have := (rnB_iff _ _ _).1 hB; exact (margin.hpB_iff _ _).2 ⟨this.1, this.2.1⟩)
  have HF := Lib.hid hF
  have g1 : decide ((R : Int) < 1) = false := decide_eq_false (by omega)
  have g2 : decide ((12 : Int) < (R : Int)) = false := decide_eq_false (by omega)
  obtain ⟨iI, hi', hz0', hz1', hz2'⟩ := info_parts own1.infoInt
  obtain ⟨bl, off, rpx, rqx, hax, _, _, _, _⟩ := hr.at (k := 0) hF.pos
  subst hax
  clear hF hB
  have Hhr := Lib.hid hr
  have Hhz := Lib.hid hz
  clear hr hz
  go_enter Try.func112, Try.ntmps112
  go_wp2_with fail
  have x0_0 : (w.alloc (.cells #[.slice (some ⟨bl, off, none⟩) rows.length c, .slice a' zs.length c'] 27)).cell? ⟨w.heap.size, 0, none⟩ = some (.slice (some ⟨bl, off, none⟩) rows.length c) := cell_new _ _ _ (by simp) rfl
  have x0_1 : (w.alloc (.cells #[.slice (some ⟨bl, off, none⟩) rows.length c, .slice a' zs.length c'] 27)).cell? ⟨w.heap.size, 1, none⟩ = some (.slice a' zs.length c') := cell_new _ _ _ (by simp) rfl
  have HB0 := Lib.hid (below_alloc w (.cells #[.slice (some ⟨bl, off, none⟩) rows.length c, .slice a' zs.length c'] 27))
  replace x0_0 := cell_old (.cells #[.slice none 0 0, .int .i64 0] 46) x0_0
  replace x0_1 := cell_old (.cells #[.slice none 0 0, .int .i64 0] 46) x0_1
  have x1_0 : ((w.alloc (.cells #[.slice (some ⟨bl, off, none⟩) rows.length c, .slice a' zs.length c'] 27)).alloc (.cells #[.slice none 0 0, .int .i64 0] 46)).cell? ⟨w.heap.size + 1, 0, none⟩ = some (.slice none 0 0) := cell_new _ _ _ (by simp) rfl
  have x1_1 : ((w.alloc (.cells #[.slice (some ⟨bl, off, none⟩) rows.length c, .slice a' zs.length c'] 27)).alloc (.cells #[.slice none 0 0, .int .i64 0] 46)).cell? ⟨w.heap.size + 1, 1, none⟩ = some (.int .i64 0) := cell_new _ _ _ (by simp) rfl
  have f1_0 : ((w.alloc (.cells #[.slice (some ⟨bl, off, none⟩) rows.length c, .slice a' zs.length c'] 27)).alloc (.cells #[.slice none 0 0, .int .i64 0] 46)).frozen? ⟨w.heap.size + 1, 0, none⟩ = false := fro_new _ _ _ (by simp)
  have f1_1 : ((w.alloc (.cells #[.slice (some ⟨bl, off, none⟩) rows.length c, .slice a' zs.length c'] 27)).alloc (.cells #[.slice none 0 0, .int .i64 0] 46)).frozen? ⟨w.heap.size + 1, 1, none⟩ = false := fro_new _ _ _ (by simp)
  replace HB0 := Lib.hid (HB0.out.alloc (by simp) (.cells #[.slice none 0 0, .int .i64 0] 46))
  have s0 : w.heap.size + 2 ≤ ((w.alloc (.cells #[.slice (some ⟨bl, off, none⟩) rows.length c, .slice a' zs.length c'] 27)).alloc (.cells #[.slice none 0 0, .int .i64 0] 46)).heap.size := by simp
  generalize hw : ((w.alloc (.cells #[.slice (some ⟨bl, off, none⟩) rows.length c, .slice a' zs.length c'] 27)).alloc (.cells #[.slice none 0 0, .int .i64 0] 46)) = w0 at *
  clear hw
  have n0_0 : w.heap.size < w0.heap.size := by omega
  have n0_1 : w.heap.size + 1 < w0.heap.size := by omega
  refine (margin.impl_hasPoints (some ⟨bl, off, none⟩) rows c a' zs c' _ (Hhr.out.below (HL.out.trans (HB0.out.mono hbw))) (Hhz.out.below (HL.out.trans (HB0.out.mono hbw))) hn hk HMM.out true hp).mono ?_
  rintro e w1 ⟨rfl, hb⟩
  have s1 : w0.heap.size ≤ w1.heap.size := hb.size
  have n1_0 : w.heap.size < w1.heap.size := by omega
  have n1_1 : w.heap.size + 1 < w1.heap.size := by omega
  replace x0_0 := cell_below hb x0_0 (by omega)
  replace x0_1 := cell_below hb x0_1 (by omega)
  replace x1_0 := cell_below hb x1_0 (by omega)
  replace x1_1 := cell_below hb x1_1 (by omega)
  replace f1_0 := fro_below hb f1_0 (by omega)
  replace f1_1 := fro_below hb f1_1 (by omega)
  have HB1 := Lib.hid (HB0.out.trans (hb.mono (by omega)))
  clear hb
  obtain ⟨bl', off', rp0, rq0, hab, hbl, hc0, _, _⟩ := (Hhr.out.below (HL.out.trans (HB1.out.mono hbw))).at (k := 0) HF.out.pos
  obtain ⟨rfl, rfl⟩ : bl = bl' ∧ off = off' := by cases hab; exact ⟨rfl, rfl⟩
  rw [Nat.add_zero] at hc0
  have HX := Lib.hid (show w1.cell? ⟨w.heap.size, 0, none⟩ = some (.slice (some ⟨bl, off, none⟩) rows.length c) ∧ w1.cell? ⟨w.heap.size, 1, none⟩ = some (.slice a' zs.length c') ∧ w1.cell? ⟨w.heap.size + 1, 0, none⟩ = some (.slice none 0 0) ∧ w1.cell? ⟨w.heap.size + 1, 1, none⟩ = some (.int .i64 0) ∧ w1.frozen? ⟨w.heap.size + 1, 0, none⟩ = false ∧ w1.frozen? ⟨w.heap.size + 1, 1, none⟩ = false from ⟨x0_0, x0_1, x1_0, x1_1, f1_0, f1_1⟩)
  have HBC := HB1
  have hd14 := HF.out.dim
  have HFP := Lib.hid (counts.impl_first bl off rows.length c (.slice a' zs.length c') (rows.getD 0 []) rp0 rq0 w1 HF.out.pos hbl hc0 hd14 a' zs.length c' rfl)
  have HDM := Lib.hid (show (ini rows).p.1.length = (rows.getD 0 []).length from by simp [ini, init])
  have HI0 := Lib.hid (show ini rows = ⟨(List.replicate (rows.getD 0 []).length 0, 0), [], [], []⟩ from rfl)
  have HPI := Lib.hid (ini_ok rows HF.out.dim)
  clear hc0 hab
  go_wp2_with fail
  refine HFP.out.mono ?_
  rintro e w3 ⟨v0, rfl, ho, hb⟩
  have hb3 := hb
  obtain ⟨p0, q0', rfl, _, _, _⟩ := ho.slice
  rw [List.length_replicate] at ho
  have HO0 := Lib.hid ho
  have HB3 := Lib.hid hb
  have hs3 := hb.size
  clear ho hb hb3 x0_0 x0_1 x1_0 x1_1 f1_0 f1_1
  generalize hrr : rows.getD 0 [] = r0 at HI0 hd14 HO0 HDM
  have HR0 := Lib.hid hrr
  clear hrr

  go_wp2_with fail
  obtain ⟨B, hB⟩ : ∃ B, B = w3.heap.size + 1 := ⟨_, rfl⟩
  have HST := Lib.hid (show ∃ (pv : Option Addr) (qv : Nat), (((w3.alloc (.cells #[] 3)).alloc (.cells #[.slice p0 r0.length q0', .int .i64 0] 46)).cell? ⟨B, 0, none⟩ = some (.slice pv (ini rows).p.1.length qv) ∧ ((w3.alloc (.cells #[] 3)).alloc (.cells #[.slice p0 r0.length q0', .int .i64 0] 46)).cell? ⟨B, 1, none⟩ = some (.int .i64 (ini rows).p.2) ∧ ((w3.alloc (.cells #[] 3)).alloc (.cells #[.slice p0 r0.length q0', .int .i64 0] 46)).frozen? ⟨B, 0, none⟩ = false ∧ ((w3.alloc (.cells #[] 3)).alloc (.cells #[.slice p0 r0.length q0', .int .i64 0] 46)).frozen? ⟨B, 1, none⟩ = false) ∧ OwnI w1.heap.size ((w3.alloc (.cells #[] 3)).alloc (.cells #[.slice p0 r0.length q0', .int .i64 0] 46)).heap.size ((w3.alloc (.cells #[] 3)).alloc (.cells #[.slice p0 r0.length q0', .int .i64 0] 46)) (.slice pv (ini rows).p.1.length qv) (ini rows).p.1 ∧ ((w3.alloc (.cells #[] 3)).alloc (.cells #[.slice p0 r0.length q0', .int .i64 0] 46)).ownsRow w1.heap.size 3 1 (Value.slice (some ⟨w3.heap.size, 0, none⟩) 0 0) (ini rows).mi.length ((ini rows).mi.map (Value.int .i64)) ∧ (∀ g, (Value.slice pv (ini rows).p.1.length qv).ownBlock = some g → (Value.slice (some ⟨w3.heap.size, 0, none⟩) 0 0).ownBlock ≠ some g) ∧ (∀ g, (Value.slice (some ⟨w3.heap.size, 0, none⟩) 0 0).ownBlock = some g → g ≠ B) from by
    rw [HI0.out]
    refine ⟨p0, q0', ?_⟩
    dsimp only
    rw [List.length_replicate]
    refine ⟨⟨cell_new _ _ _ (by simp [hB]) rfl, cell_new _ _ _ (by simp [hB]) rfl, fro_new _ _ _ (by simp [hB]), fro_new _ _ _ (by simp [hB])⟩, ?_, ?_, ?_, fun g e => by (have h9 : w3.heap.size = g := by simpa [Value.ownBlock] using e); omega⟩
    · exact ((HO0.out.below ((below_alloc w3 (.cells #[] 3)).trans ((below_alloc _ (.cells #[.slice p0 r0.length q0', .int .i64 0] 46)).mono (by simp))))).mono (Nat.le_refl _) (show w3.heap.size ≤ ((w3.alloc (.cells #[] 3)).alloc (.cells #[.slice p0 r0.length q0', .int .i64 0] 46)).heap.size by simp; omega)
    · have := (World.ownsRow_made (base := w1.heap.size) (e := 3) (size := 1) w3 #[] 0 (by omega) (by unfold maxLen; omega) rfl).alloc (.cells #[.slice p0 r0.length q0', .int .i64 0] 46)
      simpa using this
    · intro g e e2
      have h9 : w3.heap.size = g := by simpa [Value.ownBlock] using e2
      have := (HO0.out.lt e).2.1
      omega)
  have HBJ := Lib.hid ((HB3.out.alloc (by omega) (.cells #[] 3)).alloc (by simp; omega) (.cells #[.slice p0 r0.length q0', .int .i64 0] 46))
  have HBo := Lib.hid (show B < ((w3.alloc (.cells #[] 3)).alloc (.cells #[.slice p0 r0.length q0', .int .i64 0] 46)).heap.size from by rw [hB]; simp)
  have hCB : w1.heap.size ≤ B := by omega
  try rw [show w3.heap.size + 1 = B from by rw [hB]]
  have htl0 := HT.out.2.2.1
  have HTV := Lib.hid (show ∃ tv, Tr K b0.heap.size ((w3.alloc (.cells #[] 3)).alloc (.cells #[.slice p0 r0.length q0', .int .i64 0] 46)) tv (ini rows).tr ∧ Chg K w1 ((w3.alloc (.cells #[] 3)).alloc (.cells #[.slice p0 r0.length q0', .int .i64 0] 46)) tv0 tv ∧ (∀ g, tv.ownBlock = some g → g ≠ B ∧ (Value.slice (some ⟨w3.heap.size, 0, none⟩) 0 0).ownBlock ≠ some g) from ⟨tv0, (HT.out.below hK HBC.out).below (by have := HBC.out.size; omega) HBJ.out, Chg.of HBJ.out tv0, fun g e => ⟨by have := (htl0.lt g e).2; omega, fun e2 => by (have h9 : w3.heap.size = g := by simpa [Value.ownBlock] using e2); have := (htl0.lt g e).2; omega⟩⟩)
  have HBL := Lib.hid (HL.out.trans ((HBC.out.trans (HBJ.out.mono (by omega))).mono hbw))
  have HN0 := Lib.hid (show ∀ g, tv0.ownBlock = some g → g < w.heap.size from fun g e => (htl0.lt g e).2)
  have hwc : w.heap.size + 2 ≤ w1.heap.size := by omega
  clear HI0 HO0 htl0
  generalize ((w3.alloc (.cells #[] 3)).alloc (.cells #[.slice p0 r0.length q0', .int .i64 0] 46)) = w9 at *
  have HBe := Lib.hid hB
  clear hB
  have HRB := Lib.hid (show (ini rows).mi.length ≤ 0 ∧ (ini rows).p.1.length = r0.length from ⟨Nat.le_refl _, HDM.out⟩)
  go_loopw [10, 31] (fun mv i wr => ∃ (j : Nat) (st : Sta), j ≤ R ∧ i = .int .i64 j ∧ Hid (okR rows zs R = okRun rows zs (R - j) st ∧ fin rows zs R = endRun rows zs (R - j) st) ∧ Hid (okP st = true) ∧ Hid (st.mi.length ≤ j ∧ st.p.1.length = r0.length) ∧ Hid (∃ (pv : Option Addr) (qv : Nat), (wr.cell? ⟨B, 0, none⟩ = some (.slice pv (st).p.1.length qv) ∧ wr.cell? ⟨B, 1, none⟩ = some (.int .i64 (st).p.2) ∧ wr.frozen? ⟨B, 0, none⟩ = false ∧ wr.frozen? ⟨B, 1, none⟩ = false) ∧ OwnI w1.heap.size wr.heap.size wr (.slice pv (st).p.1.length qv) (st).p.1 ∧ wr.ownsRow w1.heap.size 3 1 mv (st).mi.length ((st).mi.map (Value.int .i64)) ∧ (∀ g, (Value.slice pv (st).p.1.length qv).ownBlock = some g → mv.ownBlock ≠ some g) ∧ (∀ g, mv.ownBlock = some g → g ≠ B)) ∧ Hid (Below b0.heap.size b0 wr) ∧ Hid (∃ tv, Tr K b0.heap.size wr tv st.tr ∧ Chg K w1 wr tv0 tv ∧ (∀ g, tv.ownBlock = some g → g ≠ B ∧ mv.ownBlock ≠ some g)) ∧ Hid (st.tr.length ≤ 16 * j) ∧ Hid (B < wr.heap.size)) (fun _ i _ => R - (intOf i).toNat)
  case atStart => exact ⟨0, ini rows, Nat.zero_le _, rfl, Lib.hid ⟨rfl, rfl⟩, HPI, HRB, HST, HBL, HTV, Lib.hid (Nat.le_refl _), HBo⟩
  case round =>
    obtain ⟨j, st, hj, rfl, HEQ, HPS, HBD, HS, HBl, HTW, HTL, HBs⟩ := hrel
    clear HST HBJ HBo HRB HPI HTV HBL
    obtain ⟨tv, htr, hcg, hnb⟩ := HTW.out
    have HTR := Lib.hid htr
    have HCG := Lib.hid hcg
    have HNB := Lib.hid hnb
    have hszc := hcg.1
    have htl := HTL.out
    clear HTW htr hcg hnb
    have hbs := HBs.out
    have hsz := HBl.out.size
    obtain ⟨pv, qv, hq, hov, hom, hap, hmb⟩ := HS.out
    clear HS
    by_cases hlj : j < R
    · have j1 : (j : Int) < (R : Int) := by omega
      have y0 := hq.1
      have y1 := hq.2.1
      have HQ := Lib.hid hq
      have HOV := Lib.hid hov
      have HOM := Lib.hid hom
      have HAP := Lib.hid hap
      have HMB := Lib.hid hmb
      clear hq hov hom hap hmb
      have x0_0 := HCG.out.cell (by omega) (by omega) (fun e => by have := HN0.out _ e; omega) HX.out.1
      have x0_1 := HCG.out.cell (by omega) (by omega) (fun e => by have := HN0.out _ e; omega) HX.out.2.1
      have HRD := Lib.hid (impl_round K b0 tv st (some ⟨bl, off, none⟩) rows c a' zs c' pv qv wr Hhr.out Hhz.out HOV.out.reads HBl.out HTR.out (by omega) hKl (by omega) HF.out HPS.out (by rw [HBD.out.2, HR0.out]))
      have hmj := HBD.out.1
      cases hto : okTo rows zs st rows.length
      · have HOKR := Lib.hid (show okR rows zs (R : Int) = false from by rw [HEQ.out.1, show R - j = (R - (j + 1)) + 1 from by omega]; exact okRun_no hto)
        have HTO := Lib.hid hto
        clear hto
        obtain ⟨⟨ws, b⟩, smi, str, spl⟩ := st
        dsimp only at *
        go_wp2_with fail
        refine HRD.out.mono ?_
        rintro e w5 ⟨tv5, hB5, hC5, _, hbad⟩
        have he := hbad HTO.out
        subst he
        have HB5 := Lib.hid hB5
        have HC5 := Lib.hid (HCG.out.trans hC5)
        have hs5 := hC5.1
        clear hB5 hC5 hbad
        have x1_0 := HC5.out.cell (by omega) (by omega) (fun e => by have := HN0.out _ e; omega) HX.out.2.2.1
        have x1_1 := HC5.out.cell (by omega) (by omega) (fun e => by have := HN0.out _ e; omega) HX.out.2.2.2.1
        have f1_0 := HC5.out.fro (by omega) (by omega) (fun e => by have := HN0.out _ e; omega) HX.out.2.2.2.2.1
        have f1_1 := HC5.out.fro (by omega) (by omega) (fun e => by have := HN0.out _ e; omega) HX.out.2.2.2.2.2
        have nb5 : w.heap.size + 1 < w5.heap.size := by omega
        have f9_0 : ((w5.alloc (.cells #[.slice none 0 0, .int .i64 0] 46)).alloc (.cells #[] 3)).frozen? ⟨w.heap.size + 1, 0, none⟩ = false := fro_old _ (by simp; omega) (fro_old _ nb5 f1_0)
        have f9_1 : ((w5.alloc (.cells #[.slice none 0 0, .int .i64 0] 46)).alloc (.cells #[] 3)).frozen? ⟨w.heap.size + 1, 1, none⟩ = false := fro_old _ (by simp; omega) (fro_old _ nb5 f1_1)
        have c9_0 : ((w5.alloc (.cells #[.slice none 0 0, .int .i64 0] 46)).alloc (.cells #[] 3)).cell? ⟨w.heap.size + 1, 0, none⟩ = some (.slice none 0 0) := cell_old _ (cell_old _ x1_0)
        have c9_1 : ((w5.alloc (.cells #[.slice none 0 0, .int .i64 0] 46)).alloc (.cells #[] 3)).cell? ⟨w.heap.size + 1, 1, none⟩ = some (.int .i64 0) := cell_old _ (cell_old _ x1_1)
        go_wp2_with fail
        have hx9 : (w5.alloc (.cells #[.slice none 0 0, .int .i64 0] 46)).heap.size = w5.heap.size + 1 := by simp
        have ho9 := own_empty (w5.alloc (.cells #[.slice none 0 0, .int .i64 0] 46))
        rw [hx9] at ho9
        have HF9 := Lib.hid (show Below b0.heap.size b0 ((((w5.alloc (.cells #[.slice none 0 0, .int .i64 0] 46)).alloc (.cells #[] 3)).setCell ⟨w.heap.size + 1, 0, none⟩ (.slice none 0 0)).setCell ⟨w.heap.size + 1, 1, none⟩ (.int .i64 0)) from ((((HB5.out.alloc (by omega) _).alloc (by rw [hx9]; omega) _).setCell (by simp; omega) _).setCell (by simp; omega) _))
        refine bodyPost_ret (v := .tuple #[.agg #[.slice none 0 0, .int .i64 0], .slice (some ⟨w5.heap.size + 1, 0, none⟩) 0 0, .bool false]) (by simp [results, Try.results112, go_sem, c9_0, c9_1]) rfl ⟨tv0, HF9.out, (fun h => by rw [HOKR.out] at h; cases h), fun _ => ⟨_, rfl⟩⟩
      · by_cases h0 : cn rows zs st rows.length = 0
        · have HSTEP := Lib.hid (show okR rows zs (R : Int) = true ∧ fin rows zs (R : Int) = rnd rows zs st from by
            rw [HEQ.out.1, HEQ.out.2, show R - j = (R - (j + 1)) + 1 from by omega]
            exact run_stop hto h0)
          have HRN := Lib.hid (show (rnd rows zs st).p = (inn rows zs st rows.length).p ∧ (rnd rows zs st).mi = st.mi ++ [(cn rows zs st rows.length : Int)] ∧ (rnd rows zs st).tr = (inn rows zs st rows.length).tr from ⟨rfl, rfl, rfl⟩)
          have HTL2 := Lib.hid (show (rnd rows zs st).tr.length ≤ 16 * (j + 1) from by have h1 := (tr_len rows zs st rows.length).1; have h2 := cn_le rows zs st rows.length; have h3 := HF.out.few; show (inn rows zs st rows.length).tr.length ≤ _; omega)
          have HPS2 := Lib.hid (show okP (rnd rows zs st) = true from okTo_at (k := rows.length - 1) hto (by have := HF.out.pos; omega) |> fun h => by rw [show rows.length - 1 + 1 = rows.length from by have := HF.out.pos; omega] at h; exact h)
          have HBD2 := Lib.hid (show (rnd rows zs st).mi.length ≤ j + 1 ∧ (rnd rows zs st).p.1.length = r0.length from ⟨by rw [HRN.out.2.1, List.length_append, List.length_singleton]; omega, by rw [HRN.out.1, inn_len]; exact HBD.out.2⟩)
          have HTO := Lib.hid hto
          have hcn := cn_le rows zs st rows.length
          have s16 := HF.out.few
          have g9 : ((cn rows zs st rows.length : Int) == 0) = true := by rw [h0]; rfl
          clear hto h0
          have HRD2 := Lib.hid (HRD.out.mono fun e w' h => h.elim fun tv5 h => Exists.intro tv5 (And.intro h.1 (And.intro h.2.1 (h.2.2.1 HTO.out))))
          clear HRD
          generalize rnd rows zs st = rs at *
          generalize inn rows zs st rows.length = sn at *
          generalize cn rows zs st rows.length = cnt at *
          obtain ⟨⟨ws, b⟩, smi, str, spl⟩ := st
          obtain ⟨⟨zz, bb⟩, _, str5, _⟩ := sn
          dsimp only at *
          generalize hml : smi.length = ml at *
          have HML := Lib.hid hml
          clear hml
          go_wp2_with fail
          refine HRD2.out.mono ?_
          rintro e w5 ⟨tv5, hB5, hC5, ⟨v5, rfl, ho5⟩, hT5⟩
          obtain ⟨p1, q1, rfl, _, _, _⟩ := ho5.slice
          have hs5 := hC5.1
          have HB5 := Lib.hid hB5
          have HC5 := Lib.hid hC5
          have HT5 := Lib.hid hT5
          have HCG5 := Lib.hid (HCG.out.trans hC5)
          have HO5 := Lib.hid ho5
          clear hB5 hC5 hT5 ho5
          have n0 : (w5.alloc (.cells #[.slice p1 zz.length q1, .int .i64 bb] 46)).cell? ⟨w5.heap.size, 0, none⟩ = some (.slice p1 zz.length q1) := cell_new _ _ _ rfl rfl
          have n1 : (w5.alloc (.cells #[.slice p1 zz.length q1, .int .i64 bb] 46)).cell? ⟨w5.heap.size, 1, none⟩ = some (.int .i64 bb) := cell_new _ _ _ rfl rfl
          have HP8 := Lib.hid ((HO5.out.below (below_alloc w5 (.cells #[.slice p1 zz.length q1, .int .i64 bb] 46))).mono (Nat.le_refl wr.heap.size) (show w5.heap.size ≤ (w5.alloc (.cells #[.slice p1 zz.length q1, .int .i64 bb] 46)).heap.size by simp))
          have hs8 : w5.heap.size < (w5.alloc (.cells #[.slice p1 zz.length q1, .int .i64 bb] 46)).heap.size := by simp
          have HA5 := Lib.hid (below_alloc w5 (.cells #[.slice p1 zz.length q1, .int .i64 bb] 46))
          go_wp2_with fail
          generalize (w5.alloc (.cells #[.slice p1 zz.length q1, .int .i64 bb] 46)) = w8 at *
          have HQ8 := Lib.hid (show w8.cell? ⟨B, 0, none⟩ = some (.slice pv ws.length qv) ∧ w8.cell? ⟨B, 1, none⟩ = some (.int .i64 b) ∧ w8.frozen? ⟨B, 0, none⟩ = false ∧ w8.frozen? ⟨B, 1, none⟩ = false from ⟨cell_below HA5.out (HC5.out.cell hbs (by omega) (fun e => (HNB.out _ e).1 rfl) HQ.out.1) (by omega), cell_below HA5.out (HC5.out.cell hbs (by omega) (fun e => (HNB.out _ e).1 rfl) HQ.out.2.1) (by omega), fro_below HA5.out (HC5.out.fro hbs (by omega) (fun e => (HNB.out _ e).1 rfl) HQ.out.2.2.1) (by omega), fro_below HA5.out (HC5.out.fro hbs (by omega) (fun e => (HNB.out _ e).1 rfl) HQ.out.2.2.2) (by omega)⟩)
          have HM8 := Lib.hid (show w8.ownsRow w1.heap.size 3 1 u10 ml (smi.map (Value.int .i64)) from ownsRow_block HOM.out (fun g e => by have h1 := HOM.out.lt g e; exact (HA5.out.block g (by omega)).trans (HC5.out.2.1 g h1.2 (by omega) (fun e2 => (HNB.out _ e2).2 e))))
          have HT8 := Lib.hid (HT5.out.below (by omega) HA5.out)
          have HTM := Lib.hid (show ∀ g, tv5.ownBlock = some g → g ≠ B ∧ u10.ownBlock ≠ some g ∧ g < w8.heap.size from fun g e => ⟨fun e3 => by rcases HC5.out.2.2 g e with e2 | e2; exact (HNB.out g e2).1 e3; omega, fun e3 => by rcases HC5.out.2.2 g e with e2 | e2; exact (HNB.out g e2).2 e3; (have := (HOM.out.lt g e3).2; omega), (HT8.out.2.2.1.lt g e).2⟩)
          have HA8 := Lib.hid (show ∀ g, (Value.slice p1 zz.length q1).ownBlock = some g → u10.ownBlock ≠ some g from fun g e e2 => by have h1 := (HP8.out.lt e).1; have h2 := (HOM.out.lt g e2).2; omega)
          have hmB := fun g e => HMB.out g e
          have hlm := fun g e => (HM8.out.lt g e)
          have HmN := Lib.hid (show ∀ g, u10.ownBlock = some g → g ≠ w5.heap.size from fun g e => by have := (HOM.out.lt g e).2; omega)
          refine wp_region_noPanic ?_
          refine wp_region_held_drew (S := fun w' => w'.cell? ⟨w5.heap.size, 0, none⟩ = some (.slice p1 zz.length q1) ∧ w'.cell? ⟨w5.heap.size, 1, none⟩ = some (.int .i64 bb)) (by kernel_rfl) ?_ (fun hHeld => ?_)
          · exact ⟨n0, n1⟩
          refine wpAnyH_take (i := 0) (v := ?_) rfl (by kernel_rfl) (by kernel_rfl) (by kernel_rfl) (fun _ _ _ h => h) (Or.inl ⟨by rfl, ?_⟩) (by assumption) ?_
          rotate_left
          · intro w9 hSw; (try dsimp only at hSw); go_simp; try with_reducible rfl
          try simp only [List.getElem_toArray, List.getElem_cons_succ, List.getElem_cons_zero, Act.put, List.setIfInBounds_toArray, List.set_cons_zero, List.set_cons_succ]
          refine wpAnyH_take (i := 1) (v := ?_) rfl (by kernel_rfl) (by kernel_rfl) (by kernel_rfl) (fun _ _ _ h => h) (Or.inl ⟨by rfl, ?_⟩) (by assumption) ?_
          rotate_left
          · intro w9 hSw; (try dsimp only at hSw); go_simp; try with_reducible rfl
          try simp only [List.getElem_toArray, List.getElem_cons_succ, List.getElem_cons_zero, Act.put, List.setIfInBounds_toArray, List.set_cons_zero, List.set_cons_succ]
          refine wpAnyH_take (i := 2) (v := ?_) rfl (by kernel_rfl) (by kernel_rfl) (by kernel_rfl) (fun _ _ _ h => h) (Or.inl ⟨by rfl, ?_⟩) (by assumption) ?_
          rotate_left
          · intro w9 hSw; (try dsimp only at hSw); go_simp; try with_reducible rfl
          try simp only [List.getElem_toArray, List.getElem_cons_succ, List.getElem_cons_zero, Act.put, List.setIfInBounds_toArray, List.set_cons_zero, List.set_cons_succ]
          refine wpAnyH_ready (rs := [3]) (by kernel_rfl) (by simp) ?_
          refine AllReadyH.cons rfl (fun K hK => ?_) ?_
          · go_simp
            refine hK.out _ _ ?_ (fun hHeld => ?_)
            · exact ⟨cell_old _ hHeld.1, cell_old _ hHeld.2⟩
            clear hK K
            try simp only [List.getElem_toArray, List.getElem_cons_succ, List.getElem_cons_zero, Act.put, List.setIfInBounds_toArray, List.set_cons_zero, List.set_cons_succ]
            have HNW := Lib.hid (show ∀ (j : Nat) (u : Value), [Value.int .i64 (cnt : Int)][j]? = some u → (w8.alloc (.cells #[.int .i64 (cnt : Int)] 3)).cell? ((⟨w8.heap.size, 0, none⟩ : Addr).add j) = some u from fun j u hj => by
              cases j with
              | zero =>
                simp at hj; subst hj
                exact cell_new _ _ _ (by simp [size_set]) rfl
              | succ j => simp at hj)
            refine wpAnyH_ready (rs := [4]) (by kernel_rfl) (by simp) ?_
            refine AllReadyH.cons rfl (fun K hK => ?_) ?_
            · (refine step_append_lies _ (by rfl) _ _ _ (by rfl) w1.heap.size 3 iI _ 1 8 Try.underlying23 hi' hz0' hz1' hz2' rfl (by omega) u10 ml (smi.map (Value.int .i64)) (by rfl) (HM8.out.alloc _) _ 1 1 [.int .i64 (cnt : Int)] (by rfl) (by rfl) HNW.out (by simp [Value.oneCell']) (by omega) (by unfold maxLen; omega) (by omega) (by simp; omega) _ rfl ?_)
              intro gg cap w9 hown hgrow hat hlt9
              have HGB := Lib.hid (show ∀ g, (Value.slice (some ⟨gg, 0, none⟩) (ml + 1) cap).ownBlock = some g → g ≠ B from fun g e => by
                obtain rfl : gg = g := by simpa [Value.ownBlock] using e
                rcases hat with ha | ha
                · exact hmB _ ha
                · simp [size_set] at ha; omega)
              obtain ⟨t0, t1, t2, t3⟩ := HQ8.out
              have nf : ∀ q, some q = u10.ownBlock → q = B → False := fun q e h => hmB q e.symm h
              have hQ9 : w9.cell? ⟨B, 0, none⟩ = some (.slice pv ws.length qv) ∧ w9.cell? ⟨B, 1, none⟩ = some (.int .i64 b) ∧ w9.frozen? ⟨B, 0, none⟩ = false ∧ w9.frozen? ⟨B, 1, none⟩ = false := ⟨hgrow.cell (cell_old _ t0) (fun e => nf _ e rfl), hgrow.cell (cell_old _ t1) (fun e => nf _ e rfl), (hgrow.frozen_far ⟨B, 0, none⟩ (by simp; omega) (fun e => nf _ e rfl)).trans (fro_old _ (by omega) t2), (hgrow.frozen_far ⟨B, 1, none⟩ (by simp; omega) (fun e => nf _ e rfl)).trans (fro_old _ (by omega) t3)⟩
              obtain ⟨q0, q1_, q2, q3⟩ := hQ9
              refine hK.out _ _ ?_ (fun hHeld => ?_)
              · exact ⟨hgrow.cell (cell_old _ n0) (fun e => HmN.out _ e.symm rfl), hgrow.cell (cell_old _ n1) (fun e => HmN.out _ e.symm rfl)⟩
              clear hK K
              try simp only [List.getElem_toArray, List.getElem_cons_succ, List.getElem_cons_zero, Act.put, List.setIfInBounds_toArray, List.set_cons_zero, List.set_cons_succ]
              refine wpAnyH_ready (rs := [5]) (by kernel_rfl) (by simp) ?_
              refine AllReadyH.cons rfl (fun K hK => ?_) ?_
              · go_simp
                refine hK.out _ _ ?_ (fun hHeld => ?_)
                · exact ⟨cell_set (cell_set hHeld.1 (by simp; omega) _) (by simp; omega) _, cell_set (cell_set hHeld.2 (by simp; omega) _) (by simp; omega) _⟩
                clear hK K
                try simp only [List.getElem_toArray, List.getElem_cons_succ, List.getElem_cons_zero, Act.put, List.setIfInBounds_toArray, List.set_cons_zero, List.set_cons_succ]
                refine wpAnyH_take (i := 6) (v := ?_) rfl (by kernel_rfl) (by kernel_rfl) (by kernel_rfl) (fun _ _ _ h => h) (Or.inl ⟨by rfl, ?_⟩) (by assumption) ?_
                rotate_left
                · intro w9 hSw; (try dsimp only at hSw); go_simp; try with_reducible rfl
                try simp only [List.getElem_toArray, List.getElem_cons_succ, List.getElem_cons_zero, Act.put, List.setIfInBounds_toArray, List.set_cons_zero, List.set_cons_succ]
                have HP9 := own_grown (W := w8.drew) (O := (.cells #[.int .i64 (cnt : Int)] 3)) (u := u10) (HP8.out.below (Below.refl _ _).drew) hgrow HA8.out
                have hs9 : w8.heap.size < w9.heap.size := Nat.lt_of_lt_of_le (by simp) hgrow.size
                have HB9 : Below w1.heap.size w5 w9 := (((HA5.out.mono (by omega) : Below w1.heap.size w5 w8).alloc (by omega) (.cells #[.int .i64 (cnt : Int)] 3))).drew.grown hgrow (by simp; omega) (fun g e => (HM8.out.lt g e).1)
                have HT9 := Tr.grow (W := w8.drew) (O := (.cells #[.int .i64 (cnt : Int)] 3)) (u := u10) (HT8.out.below (by omega) (Below.refl _ _).drew) (by simp; omega) hgrow (fun e => by have := (HM8.out.lt _ e).1; omega) (fun g e => (HTM.out g e).2.1)
                have HMV := Lib.hid (show ((w9.setCell ⟨B, 0, none⟩ (.slice p1 zz.length q1)).setCell ⟨B, 1, none⟩ (.int .i64 bb)).ownsRow w1.heap.size 3 1 (.slice (some ⟨gg, 0, none⟩) (ml + 1) cap) (ml + 1) (smi.map (Value.int .i64) ++ [.int .i64 (cnt : Int)]) from ownsRow_block (ownsRow_block hown (fun g e => Below.heap_setCell _ _ _ _ (by have := HGB.out g e; simp; omega))) (fun g e => Below.heap_setCell _ _ _ _ (by have := HGB.out g e; simp; omega)))
                have HQV := Lib.hid (show ((w9.setCell ⟨B, 0, none⟩ (.slice p1 zz.length q1)).setCell ⟨B, 1, none⟩ (.int .i64 bb)).cell? ⟨B, 0, none⟩ = some (.slice p1 zz.length q1) ∧ ((w9.setCell ⟨B, 0, none⟩ (.slice p1 zz.length q1)).setCell ⟨B, 1, none⟩ (.int .i64 bb)).cell? ⟨B, 1, none⟩ = some (.int .i64 bb) ∧ ((w9.setCell ⟨B, 0, none⟩ (.slice p1 zz.length q1)).setCell ⟨B, 1, none⟩ (.int .i64 bb)).frozen? ⟨B, 0, none⟩ = false ∧ ((w9.setCell ⟨B, 0, none⟩ (.slice p1 zz.length q1)).setCell ⟨B, 1, none⟩ (.int .i64 bb)).frozen? ⟨B, 1, none⟩ = false from ⟨(World.cell?_setCell_other _ _ _ _ (by simp)).trans (World.cell?_setCell_same _ _ _ q0), World.cell?_setCell_same _ _ _ ((World.cell?_setCell_other _ _ _ _ (by simp)).trans q1_), by rw [World.frozen?_setCell, World.frozen?_setCell]; exact q2, by rw [World.frozen?_setCell, World.frozen?_setCell]; exact q3⟩)
                have HPV := Lib.hid (show OwnI w1.heap.size ((w9.setCell ⟨B, 0, none⟩ (.slice p1 zz.length q1)).setCell ⟨B, 1, none⟩ (.int .i64 bb)).heap.size ((w9.setCell ⟨B, 0, none⟩ (.slice p1 zz.length q1)).setCell ⟨B, 1, none⟩ (.int .i64 bb)) (.slice p1 zz.length q1) zz from ((HP9.set (by simp; omega) _).set (by simp; omega) _).mono (by omega) (by rw [size_set, size_set]; omega))
                have HBV := Lib.hid (show Below w1.heap.size w5 ((w9.setCell ⟨B, 0, none⟩ (.slice p1 zz.length q1)).setCell ⟨B, 1, none⟩ (.int .i64 bb)) from (HB9.setCell (by simp; omega) _).setCell (by simp; omega) _)
                have HTV := Lib.hid (show Tr K b0.heap.size ((w9.setCell ⟨B, 0, none⟩ (.slice p1 zz.length q1)).setCell ⟨B, 1, none⟩ (.int .i64 bb)) tv5 str5 from (HT9.set (by simp; omega) (fun e => (HTM.out _ e).1 rfl) _).set (by simp; omega) (fun e => (HTM.out _ e).1 rfl) _)
                have HsV := Lib.hid (show B < ((w9.setCell ⟨B, 0, none⟩ (.slice p1 zz.length q1)).setCell ⟨B, 1, none⟩ (.int .i64 bb)).heap.size from by rw [size_set, size_set]; omega)
                have HAV := Lib.hid (show ∀ g, (Value.slice p1 zz.length q1).ownBlock = some g → (Value.slice (some ⟨gg, 0, none⟩) (ml + 1) cap).ownBlock ≠ some g from fun g e e2 => by
                  obtain rfl : gg = g := by simpa [Value.ownBlock] using e2
                  rcases hat with ha | ha
                  · exact HA8.out _ e ha
                  · have h1 := (HP8.out.lt e).2.1; simp [size_set] at ha; omega)
                have HTG := Lib.hid (show ∀ g, tv5.ownBlock = some g → (Value.slice (some ⟨gg, 0, none⟩) (ml + 1) cap).ownBlock ≠ some g from fun g e e2 => by
                  obtain rfl : gg = g := by simpa [Value.ownBlock] using e2
                  rcases hat with ha | ha
                  · exact (HTM.out _ e).2.1 ha
                  · have h1 := (HTM.out _ e).2.2; simp [size_set] at ha; omega)
                clear hown hgrow hat
                refine wpAnyH_done (by kernel_rfl) ?_ _
                refine NoPanic.normal ?_
                clear hHeld
                have HOKR := Lib.hid HSTEP.out.1
                have HFIN := Lib.hid HSTEP.out.2
                generalize ((w9.setCell ⟨B, 0, none⟩ (.slice p1 zz.length q1)).setCell ⟨B, 1, none⟩ (.int .i64 bb)) = w10 at *
                obtain ⟨u0, u1, _, _⟩ := HQV.out
                have x1_0 := (HCG5.out.low HBV.out).cell (by omega) (by omega) (fun e => by have := HN0.out _ e; omega) HX.out.2.2.1
                have x1_1 := (HCG5.out.low HBV.out).cell (by omega) (by omega) (fun e => by have := HN0.out _ e; omega) HX.out.2.2.2.1
                have f1_0 := (HCG5.out.low HBV.out).fro (by omega) (by omega) (fun e => by have := HN0.out _ e; omega) HX.out.2.2.2.2.1
                have f1_1 := (HCG5.out.low HBV.out).fro (by omega) (by omega) (fun e => by have := HN0.out _ e; omega) HX.out.2.2.2.2.2
                have HPO := Lib.hid (show ∀ e w', Below b0.heap.size b0 w' → Tr K b0.heap.size w' tv5 str5 → (∃ (p : Option Addr) (n q : Nat) (b : Int) (y : Value), e = .returned (.tuple #[.agg #[.slice p n q, .int .i64 b], y, .bool true])) → PostT K b0 (okR rows zs (R : Int)) (fin rows zs (R : Int)).tr w e w' from fun e w' h1 h2 h3 => ⟨tv5, h1, (fun _ => ⟨h3, by rw [HFIN.out, HRN.out.2.2]; exact h2⟩), fun h => by rw [HOKR.out] at h; cases h⟩)
                have hsV := HsV.out
                have HBb := Lib.hid (HB5.out.trans (HBV.out.mono (by omega)))
                go_wp2_with fail
                refine bodyPost_ret (v := .tuple #[.agg #[.slice p1 zz.length q1, .int .i64 bb], .slice (some ⟨gg, 0, none⟩) (ml + 1) cap, .bool true]) (by simp [results, Try.results112, go_sem, x1_0, x1_1]) rfl (HPO.out _ _ ?_ ?_ ⟨_, _, _, _, _, rfl⟩)
                · exact (HBb.out.setCell (by simp; omega) _).setCell (by simp; omega) _
                · exact (HTV.out.set (by simp; omega) (fun e => by rcases HCG5.out.2.2 _ e with e2 | e2; (have h8 : w.heap.size + 1 < w.heap.size := HN0.out _ e2; omega); (have h8 : w1.heap.size ≤ w.heap.size + 1 := e2; omega)) _).set (by simp; omega) (fun e => by rcases HCG5.out.2.2 _ e with e2 | e2; (have h8 : w.heap.size + 1 < w.heap.size := HN0.out _ e2; omega); (have h8 : w1.heap.size ≤ w.heap.size + 1 := e2; omega)) _
              exact AllReadyH.nil
            exact AllReadyH.nil
          exact AllReadyH.nil
        · have HSTEP := Lib.hid (show okR rows zs (R : Int) = okRun rows zs (R - (j + 1)) (rnd rows zs st) ∧ fin rows zs (R : Int) = endRun rows zs (R - (j + 1)) (rnd rows zs st) from by
            rw [HEQ.out.1, HEQ.out.2, show R - j = (R - (j + 1)) + 1 from by omega]
            exact run_on hto h0)
          have HRN := Lib.hid (show (rnd rows zs st).p = (inn rows zs st rows.length).p ∧ (rnd rows zs st).mi = st.mi ++ [(cn rows zs st rows.length : Int)] ∧ (rnd rows zs st).tr = (inn rows zs st rows.length).tr from ⟨rfl, rfl, rfl⟩)
          have HTL2 := Lib.hid (show (rnd rows zs st).tr.length ≤ 16 * (j + 1) from by have h1 := (tr_len rows zs st rows.length).1; have h2 := cn_le rows zs st rows.length; have h3 := HF.out.few; show (inn rows zs st rows.length).tr.length ≤ _; omega)
          have HPS2 := Lib.hid (show okP (rnd rows zs st) = true from okTo_at (k := rows.length - 1) hto (by have := HF.out.pos; omega) |> fun h => by rw [show rows.length - 1 + 1 = rows.length from by have := HF.out.pos; omega] at h; exact h)
          have HBD2 := Lib.hid (show (rnd rows zs st).mi.length ≤ j + 1 ∧ (rnd rows zs st).p.1.length = r0.length from ⟨by rw [HRN.out.2.1, List.length_append, List.length_singleton]; omega, by rw [HRN.out.1, inn_len]; exact HBD.out.2⟩)
          have HTO := Lib.hid hto
          have hcn := cn_le rows zs st rows.length
          have s16 := HF.out.few
          have g9 : ((cn rows zs st rows.length : Int) == 0) = false := by rw [beq_eq_false_iff_ne]; omega
          clear hto h0
          have HRD2 := Lib.hid (HRD.out.mono fun e w' h => h.elim fun tv5 h => Exists.intro tv5 (And.intro h.1 (And.intro h.2.1 (h.2.2.1 HTO.out))))
          clear HRD
          generalize rnd rows zs st = rs at *
          generalize inn rows zs st rows.length = sn at *
          generalize cn rows zs st rows.length = cnt at *
          obtain ⟨⟨ws, b⟩, smi, str, spl⟩ := st
          obtain ⟨⟨zz, bb⟩, _, str5, _⟩ := sn
          dsimp only at *
          generalize hml : smi.length = ml at *
          have HML := Lib.hid hml
          clear hml
          go_wp2_with fail
          refine HRD2.out.mono ?_
          rintro e w5 ⟨tv5, hB5, hC5, ⟨v5, rfl, ho5⟩, hT5⟩
          obtain ⟨p1, q1, rfl, _, _, _⟩ := ho5.slice
          have hs5 := hC5.1
          have HB5 := Lib.hid hB5
          have HC5 := Lib.hid hC5
          have HT5 := Lib.hid hT5
          have HCG5 := Lib.hid (HCG.out.trans hC5)
          have HO5 := Lib.hid ho5
          clear hB5 hC5 hT5 ho5
          have n0 : (w5.alloc (.cells #[.slice p1 zz.length q1, .int .i64 bb] 46)).cell? ⟨w5.heap.size, 0, none⟩ = some (.slice p1 zz.length q1) := cell_new _ _ _ rfl rfl
          have n1 : (w5.alloc (.cells #[.slice p1 zz.length q1, .int .i64 bb] 46)).cell? ⟨w5.heap.size, 1, none⟩ = some (.int .i64 bb) := cell_new _ _ _ rfl rfl
          have HP8 := Lib.hid ((HO5.out.below (below_alloc w5 (.cells #[.slice p1 zz.length q1, .int .i64 bb] 46))).mono (Nat.le_refl wr.heap.size) (show w5.heap.size ≤ (w5.alloc (.cells #[.slice p1 zz.length q1, .int .i64 bb] 46)).heap.size by simp))
          have hs8 : w5.heap.size < (w5.alloc (.cells #[.slice p1 zz.length q1, .int .i64 bb] 46)).heap.size := by simp
          have HA5 := Lib.hid (below_alloc w5 (.cells #[.slice p1 zz.length q1, .int .i64 bb] 46))
          go_wp2_with fail
          generalize (w5.alloc (.cells #[.slice p1 zz.length q1, .int .i64 bb] 46)) = w8 at *
          have HQ8 := Lib.hid (show w8.cell? ⟨B, 0, none⟩ = some (.slice pv ws.length qv) ∧ w8.cell? ⟨B, 1, none⟩ = some (.int .i64 b) ∧ w8.frozen? ⟨B, 0, none⟩ = false ∧ w8.frozen? ⟨B, 1, none⟩ = false from ⟨cell_below HA5.out (HC5.out.cell hbs (by omega) (fun e => (HNB.out _ e).1 rfl) HQ.out.1) (by omega), cell_below HA5.out (HC5.out.cell hbs (by omega) (fun e => (HNB.out _ e).1 rfl) HQ.out.2.1) (by omega), fro_below HA5.out (HC5.out.fro hbs (by omega) (fun e => (HNB.out _ e).1 rfl) HQ.out.2.2.1) (by omega), fro_below HA5.out (HC5.out.fro hbs (by omega) (fun e => (HNB.out _ e).1 rfl) HQ.out.2.2.2) (by omega)⟩)
          have HM8 := Lib.hid (show w8.ownsRow w1.heap.size 3 1 u10 ml (smi.map (Value.int .i64)) from ownsRow_block HOM.out (fun g e => by have h1 := HOM.out.lt g e; exact (HA5.out.block g (by omega)).trans (HC5.out.2.1 g h1.2 (by omega) (fun e2 => (HNB.out _ e2).2 e))))
          have HT8 := Lib.hid (HT5.out.below (by omega) HA5.out)
          have HTM := Lib.hid (show ∀ g, tv5.ownBlock = some g → g ≠ B ∧ u10.ownBlock ≠ some g ∧ g < w8.heap.size from fun g e => ⟨fun e3 => by rcases HC5.out.2.2 g e with e2 | e2; exact (HNB.out g e2).1 e3; omega, fun e3 => by rcases HC5.out.2.2 g e with e2 | e2; exact (HNB.out g e2).2 e3; (have := (HOM.out.lt g e3).2; omega), (HT8.out.2.2.1.lt g e).2⟩)
          have HA8 := Lib.hid (show ∀ g, (Value.slice p1 zz.length q1).ownBlock = some g → u10.ownBlock ≠ some g from fun g e e2 => by have h1 := (HP8.out.lt e).1; have h2 := (HOM.out.lt g e2).2; omega)
          have hmB := fun g e => HMB.out g e
          have hlm := fun g e => (HM8.out.lt g e)
          have HmN := Lib.hid (show ∀ g, u10.ownBlock = some g → g ≠ w5.heap.size from fun g e => by have := (HOM.out.lt g e).2; omega)
          refine wp_region_noPanic ?_
          refine wp_region_held_drew (S := fun w' => w'.cell? ⟨w5.heap.size, 0, none⟩ = some (.slice p1 zz.length q1) ∧ w'.cell? ⟨w5.heap.size, 1, none⟩ = some (.int .i64 bb)) (by kernel_rfl) ?_ (fun hHeld => ?_)
          · exact ⟨n0, n1⟩
          refine wpAnyH_take (i := 0) (v := ?_) rfl (by kernel_rfl) (by kernel_rfl) (by kernel_rfl) (fun _ _ _ h => h) (Or.inl ⟨by rfl, ?_⟩) (by assumption) ?_
          rotate_left
          · intro w9 hSw; (try dsimp only at hSw); go_simp; try with_reducible rfl
          try simp only [List.getElem_toArray, List.getElem_cons_succ, List.getElem_cons_zero, Act.put, List.setIfInBounds_toArray, List.set_cons_zero, List.set_cons_succ]
          refine wpAnyH_take (i := 1) (v := ?_) rfl (by kernel_rfl) (by kernel_rfl) (by kernel_rfl) (fun _ _ _ h => h) (Or.inl ⟨by rfl, ?_⟩) (by assumption) ?_
          rotate_left
          · intro w9 hSw; (try dsimp only at hSw); go_simp; try with_reducible rfl
          try simp only [List.getElem_toArray, List.getElem_cons_succ, List.getElem_cons_zero, Act.put, List.setIfInBounds_toArray, List.set_cons_zero, List.set_cons_succ]
          refine wpAnyH_take (i := 2) (v := ?_) rfl (by kernel_rfl) (by kernel_rfl) (by kernel_rfl) (fun _ _ _ h => h) (Or.inl ⟨by rfl, ?_⟩) (by assumption) ?_
          rotate_left
          · intro w9 hSw; (try dsimp only at hSw); go_simp; try with_reducible rfl
          try simp only [List.getElem_toArray, List.getElem_cons_succ, List.getElem_cons_zero, Act.put, List.setIfInBounds_toArray, List.set_cons_zero, List.set_cons_succ]
          refine wpAnyH_ready (rs := [3]) (by kernel_rfl) (by simp) ?_
          refine AllReadyH.cons rfl (fun K hK => ?_) ?_
          · go_simp
            refine hK.out _ _ ?_ (fun hHeld => ?_)
            · exact ⟨cell_old _ hHeld.1, cell_old _ hHeld.2⟩
            clear hK K
            try simp only [List.getElem_toArray, List.getElem_cons_succ, List.getElem_cons_zero, Act.put, List.setIfInBounds_toArray, List.set_cons_zero, List.set_cons_succ]
            have HNW := Lib.hid (show ∀ (j : Nat) (u : Value), [Value.int .i64 (cnt : Int)][j]? = some u → (w8.alloc (.cells #[.int .i64 (cnt : Int)] 3)).cell? ((⟨w8.heap.size, 0, none⟩ : Addr).add j) = some u from fun j u hj => by
              cases j with
              | zero =>
                simp at hj; subst hj
                exact cell_new _ _ _ (by simp [size_set]) rfl
              | succ j => simp at hj)
            refine wpAnyH_ready (rs := [4]) (by kernel_rfl) (by simp) ?_
            refine AllReadyH.cons rfl (fun K hK => ?_) ?_
            · (refine step_append_lies _ (by rfl) _ _ _ (by rfl) w1.heap.size 3 iI _ 1 8 Try.underlying23 hi' hz0' hz1' hz2' rfl (by omega) u10 ml (smi.map (Value.int .i64)) (by rfl) (HM8.out.alloc _) _ 1 1 [.int .i64 (cnt : Int)] (by rfl) (by rfl) HNW.out (by simp [Value.oneCell']) (by omega) (by unfold maxLen; omega) (by omega) (by simp; omega) _ rfl ?_)
              intro gg cap w9 hown hgrow hat hlt9
              have HGB := Lib.hid (show ∀ g, (Value.slice (some ⟨gg, 0, none⟩) (ml + 1) cap).ownBlock = some g → g ≠ B from fun g e => by
                obtain rfl : gg = g := by simpa [Value.ownBlock] using e
                rcases hat with ha | ha
                · exact hmB _ ha
                · simp [size_set] at ha; omega)
              obtain ⟨t0, t1, t2, t3⟩ := HQ8.out
              have nf : ∀ q, some q = u10.ownBlock → q = B → False := fun q e h => hmB q e.symm h
              have hQ9 : w9.cell? ⟨B, 0, none⟩ = some (.slice pv ws.length qv) ∧ w9.cell? ⟨B, 1, none⟩ = some (.int .i64 b) ∧ w9.frozen? ⟨B, 0, none⟩ = false ∧ w9.frozen? ⟨B, 1, none⟩ = false := ⟨hgrow.cell (cell_old _ t0) (fun e => nf _ e rfl), hgrow.cell (cell_old _ t1) (fun e => nf _ e rfl), (hgrow.frozen_far ⟨B, 0, none⟩ (by simp; omega) (fun e => nf _ e rfl)).trans (fro_old _ (by omega) t2), (hgrow.frozen_far ⟨B, 1, none⟩ (by simp; omega) (fun e => nf _ e rfl)).trans (fro_old _ (by omega) t3)⟩
              obtain ⟨q0, q1_, q2, q3⟩ := hQ9
              refine hK.out _ _ ?_ (fun hHeld => ?_)
              · exact ⟨hgrow.cell (cell_old _ n0) (fun e => HmN.out _ e.symm rfl), hgrow.cell (cell_old _ n1) (fun e => HmN.out _ e.symm rfl)⟩
              clear hK K
              try simp only [List.getElem_toArray, List.getElem_cons_succ, List.getElem_cons_zero, Act.put, List.setIfInBounds_toArray, List.set_cons_zero, List.set_cons_succ]
              refine wpAnyH_ready (rs := [5]) (by kernel_rfl) (by simp) ?_
              refine AllReadyH.cons rfl (fun K hK => ?_) ?_
              · go_simp
                refine hK.out _ _ ?_ (fun hHeld => ?_)
                · exact ⟨cell_set (cell_set hHeld.1 (by simp; omega) _) (by simp; omega) _, cell_set (cell_set hHeld.2 (by simp; omega) _) (by simp; omega) _⟩
                clear hK K
                try simp only [List.getElem_toArray, List.getElem_cons_succ, List.getElem_cons_zero, Act.put, List.setIfInBounds_toArray, List.set_cons_zero, List.set_cons_succ]
                refine wpAnyH_take (i := 6) (v := ?_) rfl (by kernel_rfl) (by kernel_rfl) (by kernel_rfl) (fun _ _ _ h => h) (Or.inl ⟨by rfl, ?_⟩) (by assumption) ?_
                rotate_left
                · intro w9 hSw; (try dsimp only at hSw); go_simp; try with_reducible rfl
                try simp only [List.getElem_toArray, List.getElem_cons_succ, List.getElem_cons_zero, Act.put, List.setIfInBounds_toArray, List.set_cons_zero, List.set_cons_succ]
                have HP9 := own_grown (W := w8.drew) (O := (.cells #[.int .i64 (cnt : Int)] 3)) (u := u10) (HP8.out.below (Below.refl _ _).drew) hgrow HA8.out
                have hs9 : w8.heap.size < w9.heap.size := Nat.lt_of_lt_of_le (by simp) hgrow.size
                have HB9 : Below w1.heap.size w5 w9 := (((HA5.out.mono (by omega) : Below w1.heap.size w5 w8).alloc (by omega) (.cells #[.int .i64 (cnt : Int)] 3))).drew.grown hgrow (by simp; omega) (fun g e => (HM8.out.lt g e).1)
                have HT9 := Tr.grow (W := w8.drew) (O := (.cells #[.int .i64 (cnt : Int)] 3)) (u := u10) (HT8.out.below (by omega) (Below.refl _ _).drew) (by simp; omega) hgrow (fun e => by have := (HM8.out.lt _ e).1; omega) (fun g e => (HTM.out g e).2.1)
                have HMV := Lib.hid (show ((w9.setCell ⟨B, 0, none⟩ (.slice p1 zz.length q1)).setCell ⟨B, 1, none⟩ (.int .i64 bb)).ownsRow w1.heap.size 3 1 (.slice (some ⟨gg, 0, none⟩) (ml + 1) cap) (ml + 1) (smi.map (Value.int .i64) ++ [.int .i64 (cnt : Int)]) from ownsRow_block (ownsRow_block hown (fun g e => Below.heap_setCell _ _ _ _ (by have := HGB.out g e; simp; omega))) (fun g e => Below.heap_setCell _ _ _ _ (by have := HGB.out g e; simp; omega)))
                have HQV := Lib.hid (show ((w9.setCell ⟨B, 0, none⟩ (.slice p1 zz.length q1)).setCell ⟨B, 1, none⟩ (.int .i64 bb)).cell? ⟨B, 0, none⟩ = some (.slice p1 zz.length q1) ∧ ((w9.setCell ⟨B, 0, none⟩ (.slice p1 zz.length q1)).setCell ⟨B, 1, none⟩ (.int .i64 bb)).cell? ⟨B, 1, none⟩ = some (.int .i64 bb) ∧ ((w9.setCell ⟨B, 0, none⟩ (.slice p1 zz.length q1)).setCell ⟨B, 1, none⟩ (.int .i64 bb)).frozen? ⟨B, 0, none⟩ = false ∧ ((w9.setCell ⟨B, 0, none⟩ (.slice p1 zz.length q1)).setCell ⟨B, 1, none⟩ (.int .i64 bb)).frozen? ⟨B, 1, none⟩ = false from ⟨(World.cell?_setCell_other _ _ _ _ (by simp)).trans (World.cell?_setCell_same _ _ _ q0), World.cell?_setCell_same _ _ _ ((World.cell?_setCell_other _ _ _ _ (by simp)).trans q1_), by rw [World.frozen?_setCell, World.frozen?_setCell]; exact q2, by rw [World.frozen?_setCell, World.frozen?_setCell]; exact q3⟩)
                have HPV := Lib.hid (show OwnI w1.heap.size ((w9.setCell ⟨B, 0, none⟩ (.slice p1 zz.length q1)).setCell ⟨B, 1, none⟩ (.int .i64 bb)).heap.size ((w9.setCell ⟨B, 0, none⟩ (.slice p1 zz.length q1)).setCell ⟨B, 1, none⟩ (.int .i64 bb)) (.slice p1 zz.length q1) zz from ((HP9.set (by simp; omega) _).set (by simp; omega) _).mono (by omega) (by rw [size_set, size_set]; omega))
                have HBV := Lib.hid (show Below w1.heap.size w5 ((w9.setCell ⟨B, 0, none⟩ (.slice p1 zz.length q1)).setCell ⟨B, 1, none⟩ (.int .i64 bb)) from (HB9.setCell (by simp; omega) _).setCell (by simp; omega) _)
                have HTV := Lib.hid (show Tr K b0.heap.size ((w9.setCell ⟨B, 0, none⟩ (.slice p1 zz.length q1)).setCell ⟨B, 1, none⟩ (.int .i64 bb)) tv5 str5 from (HT9.set (by simp; omega) (fun e => (HTM.out _ e).1 rfl) _).set (by simp; omega) (fun e => (HTM.out _ e).1 rfl) _)
                have HsV := Lib.hid (show B < ((w9.setCell ⟨B, 0, none⟩ (.slice p1 zz.length q1)).setCell ⟨B, 1, none⟩ (.int .i64 bb)).heap.size from by rw [size_set, size_set]; omega)
                have HAV := Lib.hid (show ∀ g, (Value.slice p1 zz.length q1).ownBlock = some g → (Value.slice (some ⟨gg, 0, none⟩) (ml + 1) cap).ownBlock ≠ some g from fun g e e2 => by
                  obtain rfl : gg = g := by simpa [Value.ownBlock] using e2
                  rcases hat with ha | ha
                  · exact HA8.out _ e ha
                  · have h1 := (HP8.out.lt e).2.1; simp [size_set] at ha; omega)
                have HTG := Lib.hid (show ∀ g, tv5.ownBlock = some g → (Value.slice (some ⟨gg, 0, none⟩) (ml + 1) cap).ownBlock ≠ some g from fun g e e2 => by
                  obtain rfl : gg = g := by simpa [Value.ownBlock] using e2
                  rcases hat with ha | ha
                  · exact (HTM.out _ e).2.1 ha
                  · have h1 := (HTM.out _ e).2.2; simp [size_set] at ha; omega)
                clear hown hgrow hat
                refine wpAnyH_done (by kernel_rfl) ?_ _
                refine NoPanic.normal ?_
                clear hHeld
                go_wp2_with fail
                go_roundw
                case rel => exact ⟨j + 1, rs, by omega, by go_num, HSTEP, HPS2, HBD2, Lib.hid (by rw [HRN.out.1, HRN.out.2.1, List.length_append, List.length_singleton, HML.out, List.map_append]; exact ⟨p1, q1, HQV.out, HPV.out, HMV.out, HAV.out, HGB.out⟩), Lib.hid (HB5.out.trans (HBV.out.mono (by omega))), Lib.hid ⟨tv5, by rw [HRN.out.2.2]; exact HTV.out, HCG5.out.low HBV.out, fun g e => ⟨(HTM.out g e).1, fun e2 => HTG.out g e e2⟩⟩, HTL2, HsV⟩
                case measure => simp [intOf]; omega
              exact AllReadyH.nil
            exact AllReadyH.nil
          exact AllReadyH.nil
    · obtain rfl : j = R := by omega
      have HOKR := Lib.hid (show okR rows zs (j : Int) = true from by rw [HEQ.out.1, Nat.sub_self]; rfl)
      have HFIN := Lib.hid (show (fin rows zs (j : Int)).tr = st.tr from by rw [HEQ.out.2, Nat.sub_self]; rfl)
      obtain ⟨y0, y1, _, _⟩ := hq
      clear hov hom hap hmb
      have x1_0 := HCG.out.cell (by omega) (by omega) (fun e => by have := HN0.out _ e; omega) HX.out.2.2.1
      have x1_1 := HCG.out.cell (by omega) (by omega) (fun e => by have := HN0.out _ e; omega) HX.out.2.2.2.1
      have f1_0 := HCG.out.fro (by omega) (by omega) (fun e => by have := HN0.out _ e; omega) HX.out.2.2.2.2.1
      have f1_1 := HCG.out.fro (by omega) (by omega) (fun e => by have := HN0.out _ e; omega) HX.out.2.2.2.2.2
      have HPO := Lib.hid (show ∀ e w', Below b0.heap.size b0 w' → Tr K b0.heap.size w' tv st.tr → (∃ (p : Option Addr) (n q : Nat) (b : Int) (y : Value), e = .returned (.tuple #[.agg #[.slice p n q, .int .i64 b], y, .bool true])) → PostT K b0 (okR rows zs (j : Int)) (fin rows zs (j : Int)).tr w e w' from fun e w' h1 h2 h3 => ⟨tv, h1, (fun _ => ⟨h3, by rw [HFIN.out]; exact h2⟩), fun h => by rw [HOKR.out] at h; cases h⟩)
      obtain ⟨⟨ws, b⟩, smi, str, spl⟩ := st
      dsimp only at *
      go_wp2_with fail
      refine bodyPost_ret (v := .tuple #[.agg #[.slice pv ws.length qv, .int .i64 b], u10, .bool true]) (by simp [results, Try.results112, go_sem, x1_0, x1_1]) rfl (HPO.out _ _ ?_ ?_ ⟨_, _, _, _, _, rfl⟩)
      · exact (HBl.out.setCell (by simp; omega) _).setCell (by simp; omega) _
      · exact (HTR.out.set (by simp; omega) (fun e => by rcases HCG.out.2.2 _ e with e2 | e2; (have h8 : w.heap.size + 1 < w.heap.size := HN0.out _ e2; omega); (have h8 : w1.heap.size ≤ w.heap.size + 1 := e2; omega)) _).set (by simp; omega) (fun e => by rcases HCG.out.2.2 _ e with e2 | e2; (have h8 : w.heap.size + 1 < w.heap.size := HN0.out _ e2; omega); (have h8 : w1.heap.size ≤ w.heap.size + 1 := e2; omega)) _
end Go.Proofs.Ytocbklmkphgkeaa.walkt

namespace Go.Proofs.Ytocbklmkphgkeaa.walkt
open Go.RowKit own own1 pp nums dots fill step range kept samplest samplesv planes runp made
set_option linter.unusedVariables false
set_option linter.unusedSimpArgs false
attribute [local go_sem ↓] Go.wp_at_zero Go.wp_at_succ
theorem run_any (K : Nat) (b0 : World) (tv0 : Value) (a : Option Addr) (rows : List (List Int)) (c : Nat) (a' : Option Addr) (zs : List Int) (c' : Nat) (r : Int) (w : World) (hr : grid.Reads b0 a rows) (hz : ints.Reads .i64 b0 a' zs) (hL : Below b0.heap.size b0 w) (hT : Tr K b0.heap.size w tv0 []) (hK : K < w.heap.size) (hKl : b0.heap.size ≤ K) (hn : rows.length ≤ 1048576) (hk : zs.length ≤ 1048576) (hm : ∀ r ∈ rows, r.length ≤ 1048576) :
    Calls Try.prog 112 #[.agg #[.slice a rows.length c, .slice a' zs.length c'], .int .i64 r, .func (.func 114) #[] #[.pointer (some ⟨K, 0, none⟩)]] w (PostT K b0 (runB rows zs r) (fin rows zs r).tr w) := by
  have bad : ∀ e w', PostT K b0 false [] w e w' → rnB rows zs r = false → PostT K b0 (runB rows zs r) (fin rows zs r).tr w e w' := fun e w' h hB => by
    have h1 : runB rows zs r = false := by unfold runB; rw [hB]; rfl
    rw [h1]
    obtain ⟨tv', h2, _, h4⟩ := h
    exact ⟨tv', h2, (fun h => by cases h), h4⟩
  cases hB : rnB rows zs r
  · cases h1 : margin.hpB rows zs
    · exact (run_no1 K b0 tv0 a rows c a' zs c' r w hr hz hL hT hK hKl hn hk hm (Lib.hid h1)).mono fun e w' h => bad e w' h hB
    · by_cases h0 : r < 1
      · exact (run_no2 K b0 tv0 a rows c a' zs c' r w hr hz hL hT hK hKl hn hk hm (Lib.hid h1) h0).mono fun e w' h => bad e w' h hB
      · by_cases h2 : 12 < r
        · exact (run_no3 K b0 tv0 a rows c a' zs c' r w hr hz hL hT hK hKl hn hk hm (Lib.hid h1) h0 h2).mono fun e w' h => bad e w' h hB
        · have h3 := (margin.hpB_iff _ _).1 h1
          rw [(rnB_iff _ _ _).2 ⟨h3.1, h3.2, by omega, by omega⟩] at hB
          cases hB
  · have h1 : runB rows zs r = okR rows zs r := by unfold runB; rw [hB]; rfl
    rw [h1]
    exact run_main K b0 tv0 a rows c a' zs c' r w hr hz hL hT hK hKl hn hk hm hB
set_option maxRecDepth 100000 in
set_option maxHeartbeats 4000000 in
theorem trace_no (a : Option Addr) (rows : List (List Int)) (c : Nat) (a' : Option Addr) (zs : List Int) (c' : Nat) (r : Int) (w : World) (hr : grid.Reads w a rows) (hz : ints.Reads .i64 w a' zs) (hn : rows.length ≤ 1048576) (hk : zs.length ≤ 1048576) (hm : ∀ r ∈ rows, r.length ≤ 1048576) (h : runB rows zs r = false) :
    Calls Try.prog 56 #[.agg #[.slice a rows.length c, .slice a' zs.length c'], .int .i64 r] w (RetIB [] false w) := by
  have HMM := Lib.hid hm
  clear hm
  have HR := Lib.hid h
  clear h
  have Hhr := Lib.hid hr
  have Hhz := Lib.hid hz
  clear hr hz
  have x0_0 : (((w.alloc (.cells #[.slice a rows.length c, .slice a' zs.length c'] 27)).alloc (.cells #[] 3)).alloc (.cells #[.slice (some ⟨w.heap.size + 1, 0, none⟩) 0 0] 23)).cell? ⟨w.heap.size, 0, none⟩ = some (.slice a rows.length c) := cell_old _ (cell_old _ (cell_new _ _ _ rfl rfl))
  have x0_1 : (((w.alloc (.cells #[.slice a rows.length c, .slice a' zs.length c'] 27)).alloc (.cells #[] 3)).alloc (.cells #[.slice (some ⟨w.heap.size + 1, 0, none⟩) 0 0] 23)).cell? ⟨w.heap.size, 1, none⟩ = some (.slice a' zs.length c') := cell_old _ (cell_old _ (cell_new _ _ _ rfl rfl))
  have HB := Lib.hid (((below_alloc w (.cells #[.slice a rows.length c, .slice a' zs.length c'] 27)).alloc (by simp) (.cells #[] 3)).alloc (by simp; omega) (.cells #[.slice (some ⟨w.heap.size + 1, 0, none⟩) 0 0] 23))
  have HT := Lib.hid (show Tr (w.heap.size + 2) w.heap.size (((w.alloc (.cells #[.slice a rows.length c, .slice a' zs.length c'] 27)).alloc (.cells #[] 3)).alloc (.cells #[.slice (some ⟨w.heap.size + 1, 0, none⟩) 0 0] 23)) (.slice (some ⟨w.heap.size + 1, 0, none⟩) 0 0) [] from ⟨cell_new _ _ _ (by simp) rfl, fro_new _ _ _ (by simp), by
    have := (World.ownsRow_made (base := w.heap.size) (e := 3) (size := 1) (w.alloc (.cells #[.slice a rows.length c, .slice a' zs.length c'] 27)) #[] 0 (by simp) (by unfold maxLen; omega) rfl).alloc (.cells #[.slice (some ⟨w.heap.size + 1, 0, none⟩) 0 0] 23)
    simpa using this, fun g e => by (have h9 : w.heap.size + 1 = g := by simpa [Value.ownBlock] using e); omega⟩)
  have hs : w.heap.size + 2 < (((w.alloc (.cells #[.slice a rows.length c, .slice a' zs.length c'] 27)).alloc (.cells #[] 3)).alloc (.cells #[.slice (some ⟨w.heap.size + 1, 0, none⟩) 0 0] 23)).heap.size := by simp
  go_enter Try.func56, Try.ntmps56
  go_wp2_with fail
  generalize (((w.alloc (.cells #[.slice a rows.length c, .slice a' zs.length c'] 27)).alloc (.cells #[] 3)).alloc (.cells #[.slice (some ⟨w.heap.size + 1, 0, none⟩) 0 0] 23)) = w0 at *
  refine (run_any (w.heap.size + 2) w _ a rows c a' zs c' r w0 Hhr.out Hhz.out HB.out HT.out hs (by omega) hn hk HMM.out).mono ?_
  rintro e w1 ⟨tv', hB1, hgood, hbad⟩
  obtain ⟨y, rfl⟩ := hbad HR.out
  clear hgood hbad
  have HB1 := Lib.hid hB1
  have hs1 := hB1.size
  clear hB1
  have hx9 : (w1.alloc (.cells #[.slice none 0 0, .int .i64 0] 46)).heap.size = w1.heap.size + 1 := by simp
  have ho9 := own_empty (w1.alloc (.cells #[.slice none 0 0, .int .i64 0] 46))
  rw [hx9] at ho9
  go_wp2_with fail
  go_ret2
  exact ⟨_, rfl, ho9.mono (by omega) (by simp), (HB1.out.alloc HB1.out.size _).alloc (by rw [hx9]; omega) _⟩
set_option maxRecDepth 100000 in
set_option maxHeartbeats 4000000 in
theorem trace_yes (a : Option Addr) (rows : List (List Int)) (c : Nat) (a' : Option Addr) (zs : List Int) (c' : Nat) (r : Int) (w : World) (hr : grid.Reads w a rows) (hz : ints.Reads .i64 w a' zs) (hn : rows.length ≤ 1048576) (hk : zs.length ≤ 1048576) (hm : ∀ r ∈ rows, r.length ≤ 1048576) (h : runB rows zs r = true) :
    Calls Try.prog 56 #[.agg #[.slice a rows.length c, .slice a' zs.length c'], .int .i64 r] w (RetIB (fin rows zs r).tr true w) := by
  have HMM := Lib.hid hm
  clear hm
  have HR := Lib.hid h
  clear h
  have Hhr := Lib.hid hr
  have Hhz := Lib.hid hz
  clear hr hz
  have x0_0 : (((w.alloc (.cells #[.slice a rows.length c, .slice a' zs.length c'] 27)).alloc (.cells #[] 3)).alloc (.cells #[.slice (some ⟨w.heap.size + 1, 0, none⟩) 0 0] 23)).cell? ⟨w.heap.size, 0, none⟩ = some (.slice a rows.length c) := cell_old _ (cell_old _ (cell_new _ _ _ rfl rfl))
  have x0_1 : (((w.alloc (.cells #[.slice a rows.length c, .slice a' zs.length c'] 27)).alloc (.cells #[] 3)).alloc (.cells #[.slice (some ⟨w.heap.size + 1, 0, none⟩) 0 0] 23)).cell? ⟨w.heap.size, 1, none⟩ = some (.slice a' zs.length c') := cell_old _ (cell_old _ (cell_new _ _ _ rfl rfl))
  have HB := Lib.hid (((below_alloc w (.cells #[.slice a rows.length c, .slice a' zs.length c'] 27)).alloc (by simp) (.cells #[] 3)).alloc (by simp; omega) (.cells #[.slice (some ⟨w.heap.size + 1, 0, none⟩) 0 0] 23))
  have HT := Lib.hid (show Tr (w.heap.size + 2) w.heap.size (((w.alloc (.cells #[.slice a rows.length c, .slice a' zs.length c'] 27)).alloc (.cells #[] 3)).alloc (.cells #[.slice (some ⟨w.heap.size + 1, 0, none⟩) 0 0] 23)) (.slice (some ⟨w.heap.size + 1, 0, none⟩) 0 0) [] from ⟨cell_new _ _ _ (by simp) rfl, fro_new _ _ _ (by simp), by
    have := (World.ownsRow_made (base := w.heap.size) (e := 3) (size := 1) (w.alloc (.cells #[.slice a rows.length c, .slice a' zs.length c'] 27)) #[] 0 (by simp) (by unfold maxLen; omega) rfl).alloc (.cells #[.slice (some ⟨w.heap.size + 1, 0, none⟩) 0 0] 23)
    simpa using this, fun g e => by (have h9 : w.heap.size + 1 = g := by simpa [Value.ownBlock] using e); omega⟩)
  have hs : w.heap.size + 2 < (((w.alloc (.cells #[.slice a rows.length c, .slice a' zs.length c'] 27)).alloc (.cells #[] 3)).alloc (.cells #[.slice (some ⟨w.heap.size + 1, 0, none⟩) 0 0] 23)).heap.size := by simp
  go_enter Try.func56, Try.ntmps56
  go_wp2_with fail
  generalize (((w.alloc (.cells #[.slice a rows.length c, .slice a' zs.length c'] 27)).alloc (.cells #[] 3)).alloc (.cells #[.slice (some ⟨w.heap.size + 1, 0, none⟩) 0 0] 23)) = w0 at *
  refine (run_any (w.heap.size + 2) w _ a rows c a' zs c' r w0 Hhr.out Hhz.out HB.out HT.out hs (by omega) hn hk HMM.out).mono ?_
  rintro e w1 ⟨tv', hB1, hgood, hbad⟩
  obtain ⟨⟨p, n, q, b, y, rfl⟩, hT1⟩ := hgood HR.out
  clear hgood hbad
  have HB1 := Lib.hid hB1
  obtain ⟨c1, _, c3, _⟩ := hT1
  have HO := Lib.hid (OwnI.of c3)
  obtain ⟨p2, q2, hv, _, _, _⟩ := HO.out.slice
  subst hv
  have hKw : w.heap.size + 2 < w1.heap.size := World.block_lt_of_cell? w1 _ c1
  have c9 := cell_old (.cells #[.slice p n q, .int .i64 b] 46) c1
  clear hB1 c3
  generalize (fin rows zs r).tr = TT at *
  go_wp2_with fail
  go_ret2
  exact ⟨_, rfl, (HO.out.below (below_alloc w1 _)).mono (Nat.le_refl _) (by simp), HB1.out.alloc HB1.out.size _⟩
theorem dual_no (a : Option Addr) (rows : List (List Int)) (c : Nat) (a' : Option Addr) (zs : List Int) (c' : Nat) (r : Int) (w : World) (hr : grid.Reads w a rows) (hz : ints.Reads .i64 w a' zs) (hn : rows.length ≤ 1048576) (hk : zs.length ≤ 1048576) (hm : ∀ r ∈ rows, r.length ≤ 1048576) (h : runB rows zs r = false) :
    Calls Try.prog 58 #[.agg #[.slice a rows.length c, .slice a' zs.length c'], .int .i64 r] w (RetIB [] false w) := by
  exact dualc.impl_no_of a rows c a' zs c' r w hr hz hn hk hm (Lib.hid fun W hB => trace_no a rows c a' zs c' r W (hr.below hB) (hz.below hB) hn hk hm h)
theorem dual_yes (a : Option Addr) (rows : List (List Int)) (c : Nat) (a' : Option Addr) (zs : List Int) (c' : Nat) (r : Int) (w : World) (hr : grid.Reads w a rows) (hz : ints.Reads .i64 w a' zs) (hn : rows.length ≤ 1048576) (hk : zs.length ≤ 1048576) (hm : ∀ r ∈ rows, r.length ≤ 1048576) (h : runB rows zs r = true) :
    Calls Try.prog 58 #[.agg #[.slice a rows.length c, .slice a' zs.length c'], .int .i64 r] w (RetIB (dualc.dual rows zs r) true w) := by
  exact dualc.impl_yes_of a rows c a' zs c' r w hr hz hn hk hm h (Lib.hid fun W hB => trace_yes a rows c a' zs c' r W (hr.below hB) (hz.below hB) hn hk hm h)
end Go.Proofs.Ytocbklmkphgkeaa.walkt
