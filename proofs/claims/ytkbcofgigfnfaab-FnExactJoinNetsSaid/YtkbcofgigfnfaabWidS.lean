/- The model's planes, widened by zeros. -/
import Derived.Test.YtkbcofgigfnfaabStmp
import Derived.Test.YtkbcofgigfnfaabOwn1
import Derived.Test.YtkbcofgigfnfaabWidP
import Derived.Test.YtkbcofgigfnfaabZeros
import Derived.Deep.RegionHeld3
import Derived.Deep.DrawnRows
import Derived.OwnWalk
namespace Go.Proofs.Ytkbcofgigfnfaab.wids
open Go.RowKit own own1 stmp widp zeros
set_option linter.unusedVariables false
set_option linter.unusedSimpArgs false

theorem block_lt_of_cell {w : World} {a : Addr} {x : Value} (h : w.cell? a = some x) : a.block < w.heap.size := World.block_lt_of_cell? w a h
theorem cell_keep {W W' : World} (h : Below W.heap.size W W') {b o : Nat} {x : Value} (hx : W.cell? ⟨b, o, none⟩ = some x) : W'.cell? ⟨b, o, none⟩ = some x :=
  cell_below h hx (block_lt_of_cell (a := ⟨b, o, none⟩) hx)
theorem fro_keep {W W' : World} (h : Below W.heap.size W W') {b o o' : Nat} {x : Value} (hx : W.cell? ⟨b, o', none⟩ = some x) (hf : W.frozen? ⟨b, o, none⟩ = false) : W'.frozen? ⟨b, o, none⟩ = false :=
  fro_below h hf (block_lt_of_cell (a := ⟨b, o', none⟩) hx)
theorem cell_grow {W W' : World} {row : Option Nat} (h : W.grownBy W' row) {b o : Nat} {x : Value} (hx : W.cell? ⟨b, o, none⟩ = some x) (hne : ∀ g, row = some g → b ≠ g) : W'.cell? ⟨b, o, none⟩ = some x :=
  (World.cell?_of_block (h.block b (block_lt_of_cell (a := ⟨b, o, none⟩) hx) (fun e => hne b e.symm rfl))).trans hx
theorem fro_grow {W W' : World} {row : Option Nat} (h : W.grownBy W' row) {b o o' : Nat} {x : Value} (hx : W.cell? ⟨b, o', none⟩ = some x) (hf : W.frozen? ⟨b, o, none⟩ = false) (hne : ∀ g, row = some g → b ≠ g) : W'.frozen? ⟨b, o, none⟩ = false :=
  (World.frozen?_of_block (a := ⟨b, o, none⟩) (h.block b (block_lt_of_cell (a := ⟨b, o', none⟩) hx) (fun e => hne b e.symm rfl))).trans hf
theorem cell_set2 {W : World} {b o b' o' : Nat} {x : Value} (hx : W.cell? ⟨b, o, none⟩ = some x) (hne : b ≠ b') (u : Value) : (W.setCell ⟨b', o', none⟩ u).cell? ⟨b, o, none⟩ = some x :=
  (World.cell?_of_block (Below.heap_setCell _ _ _ _ (by show b ≠ b'; exact hne))).trans hx
/-- A make at its whole length, in a region that draws its order. -/
theorem step_make_full {P : Program} {ops : Array Oper} {o : Oper} {a : Act} {w : World} {K : Act → World → Prop} {Q : Exit → Act → World → Prop} {E : Prop}
    (hg : o.guard = none) (l c : Operand) (t : TypeId) (hop : o.op = Op.makeSlice t l c)
    (base : Nat) (e : TypeId) (i : TypeInfo) (z : Value) (size : Nat) (h1 : P.underlying t = some (.slice e)) (h2 : P.info? e = some i) (h3 : i.zero = some z) (h4 : i.size = size)
    (kl kc : IntKind) (L C : Int) (n : Nat) (hl : a.eval l = .int kl L) (hc : a.eval c = .int kc C) (hL : L = (n : Int)) (hC : C = (n : Int)) (b2 : i.bytes * n ≤ 281474976710656) (b3 : n ≤ maxLen) (b4 : base ≤ w.heap.size)
    (hK : ∀ w', w'.ownsRow base e size (.slice (some ⟨w.heap.size, 0, none⟩) n n) n (madeCells z.cells (n * size)).toList → w.grownBy w' none → K (a.put o.dst (.slice (some ⟨w.heap.size, 0, none⟩) n n)) w') :
    if Region.wanted o (yielded ops a.tmps) = true then Oper.wp P o a w K Q else E := by
  have hw : Region.wanted o (yielded ops a.tmps) = true := by simp [Region.wanted, hg]
  rw [if_pos hw]
  obtain ⟨w', hrun, r1, r2⟩ := run_make_full (P := P) w base t e i z size h1 h2 h3 h4 kl kc n b2 b3 b4
  subst hL
  subst hC
  unfold Oper.wp
  simp [execOp, hop, hl, hc, hrun, Result.andThen]
  exact hK w' r1 r2
theorem news_ints {w : World} {b o : Nat} {ws : List Int} (h : ints.Reads .i64 w (some ⟨b, o, none⟩) ws) (h1 : 1 ≤ ws.length) : ∀ (j : Nat) (u : Value), (ws.map (Value.int .i64))[j]? = some u → w.cell? ((⟨b, o, none⟩ : Addr).add j) = some u := fun j u hu => by
  obtain ⟨bw, ow, e, hbw, hcw⟩ := reads_pos h (by omega)
  cases e
  rw [Go.WideShapes.add_plain]
  have hi : j < ws.length := by have := (List.getElem?_eq_some_iff.1 hu).1; simpa using this
  rw [hcw j hi]
  rw [List.getElem?_map, List.getElem?_eq_getElem hi] at hu
  rw [← hu, List.getD_eq_getElem?_getD, List.getElem?_eq_getElem hi]; rfl
theorem ones_ints (ws : List Int) : ∀ u ∈ ws.map (Value.int .i64), u.oneCell' = true := fun u hu => by
  obtain ⟨z, _, rfl⟩ := List.mem_map.1 hu
  rfl
set_option maxRecDepth 100000 in
set_option maxHeartbeats 1600000 in
theorem spec_wide (x y : Nat) (a : Option Addr) (ps : List (List Int × Int)) (c : Nat) (w : World) (hx : x ≤ 100) (hy : y ≤ 100) (hr : ReadsJ w a ps) (hn : ps.length ≤ 1000) (hm : ∀ k, k < ps.length → 1 ≤ (ps.getD k ([], 0)).1.length ∧ (ps.getD k ([], 0)).1.length ≤ 100) :
    Calls Try.prog 87 #[.slice a ps.length c, .int .i64 x, .int .i64 y] w (fun e w' => ∃ p q cs, e = .returned (.slice p ps.length q) ∧ OwnK w.heap.size w'.heap.size w' (.slice p ps.length q) (widJ x y ps) cs ∧ Below w.heap.size w w') := by
  obtain ⟨i0, hi, hz0, hz1, hz2⟩ := info_parts infoInt
  obtain ⟨j0, hj, hjz0, hjz1, hjz2⟩ := info_parts infoP
  have Hhr := Lib.hid hr
  have HM := Lib.hid hm
  clear hr hm
  go_enter Try.func87, Try.ntmps87
  have hown0 := (emptyJ w).widen (Nat.le_refl _) (show w.heap.size + 1 ≤ (w.alloc (.cells #[] 56)).heap.size by simp)
  have hb0 := below_alloc w (.cells #[] 56)
  go_wp2_with fail
  go_loopw [7, 8] (fun v i wr => ∃ (k : Nat) (cs : List Value), k ≤ ps.length ∧ i = .int .i64 k ∧ OwnK w.heap.size wr.heap.size wr v ((widJ x y ps).take k) cs ∧ Below w.heap.size w wr) (fun _ i _ => ps.length - (intOf i).toNat)
  case atStart => exact ⟨0, [], Nat.zero_le _, rfl, hown0, hb0⟩
  case round =>
    obtain ⟨k, cs, hk9, rfl, hown, hbel⟩ := hrel
    have hsz := hbel.size
    have HO := Lib.hid hown
    have HBl := Lib.hid hbel
    clear hown0 hb0
    by_cases hlt : k < ps.length
    · obtain ⟨gL, go, pj, pqj, rfl, hgl, kj, dj, _, hrowj⟩ := (Hhr.out.below hbel).at hlt
      have hw1' := (HM.out k hlt).1
      have hw4 := (HM.out k hlt).2
      have HTK := Lib.hid (wid_take x y ps k hlt)
      have HTJ := Lib.hid (show ((widJ x y ps).take k).length = k by rw [List.length_take, wid_len]; omega)
      clear hown hbel
      generalize (ps.getD k ([], 0)).1 = wsj at *
      generalize (ps.getD k ([], 0)).2 = bj at *
      obtain ⟨zsj, hzsj⟩ : ∃ zsj, zsj = List.replicate x 0 ++ wsj ++ List.replicate y 0 := ⟨_, rfl⟩
      rw [← hzsj] at HTK
      have HZS := Lib.hid hzsj.symm
      clear hzsj
      obtain ⟨bw, ow, rfl, hbw, _⟩ := reads_pos hrowj (by omega)
      have HWj := Lib.hid hrowj
      clear hrowj
      have y0 := kj
      have y1 := dj
      clear kj dj
      have HBs := Lib.hid (Below.refl wr.heap.size wr)
      go_wp2_with fail
      refine wp_region_noPanic ?_
      refine wp_region_held_drew (S := fun w' => w'.cell? ⟨gL, go + k * 2, none⟩ = some (.slice (some ⟨bw, ow, none⟩) wsj.length pqj) ∧ w'.cell? ⟨gL, go + k * 2 + 1, none⟩ = some (.int .i64 bj)) (by kernel_rfl) ?_ (fun hHeld => ?_)
      · exact ⟨y0, y1⟩
      have hb : Below wr.heap.size wr wr.drew := (Below.refl _ _).drew
      generalize hwn : wr.drew = v51 at *
      clear hwn
      have sz51 : wr.heap.size ≤ v51.heap.size := hb.size
      replace y0 := cell_keep hb y0
      replace y1 := cell_keep hb y1
      have HBh51 := Lib.hid (HBs.out.trans (hb.mono (by have := HBs.out.size; omega)))
      clear hb
      refine wpAnyH_take (i := 0) (v := ?_) rfl (by kernel_rfl) (by kernel_rfl) (by kernel_rfl) (fun _ _ _ h => h) (Or.inl ⟨by rfl, ?_⟩) (by assumption) ?_
      rotate_left
      · intro w9 hSw; (try dsimp only at hSw); go_simp; try with_reducible rfl
      try simp only [List.getElem_toArray, List.getElem_cons_succ, List.getElem_cons_zero, Act.put, List.setIfInBounds_toArray, List.set_cons_zero, List.set_cons_succ]
      refine wpAnyH_take (i := 2) (v := ?_) rfl (by kernel_rfl) (by kernel_rfl) (by kernel_rfl) (fun _ _ _ h => h) (Or.inl ⟨by rfl, ?_⟩) (by assumption) ?_
      rotate_left
      · intro w9 hSw; (try dsimp only at hSw); go_simp; try with_reducible rfl
      try simp only [List.getElem_toArray, List.getElem_cons_succ, List.getElem_cons_zero, Act.put, List.setIfInBounds_toArray, List.set_cons_zero, List.set_cons_succ]
      refine wpAnyH_take (i := 3) (v := ?_) rfl (by kernel_rfl) (by kernel_rfl) (by kernel_rfl) (fun _ _ _ h => h) (Or.inl ⟨by rfl, ?_⟩) (by assumption) ?_
      rotate_left
      · intro w9 hSw; (try dsimp only at hSw); go_simp; try with_reducible rfl
      try simp only [List.getElem_toArray, List.getElem_cons_succ, List.getElem_cons_zero, Act.put, List.setIfInBounds_toArray, List.set_cons_zero, List.set_cons_succ]
      refine wpAnyH_take (i := 4) (v := ?_) rfl (by kernel_rfl) (by kernel_rfl) (by kernel_rfl) (fun _ _ _ h => h) (Or.inl ⟨by rfl, ?_⟩) (by assumption) ?_
      rotate_left
      · intro w9 hSw; (try dsimp only at hSw); go_simp; try with_reducible rfl
      try simp only [List.getElem_toArray, List.getElem_cons_succ, List.getElem_cons_zero, Act.put, List.setIfInBounds_toArray, List.set_cons_zero, List.set_cons_succ]
      refine wpAnyH_take (i := 5) (v := ?_) rfl (by kernel_rfl) (by kernel_rfl) (by kernel_rfl) (fun _ _ _ h => h) (Or.inl ⟨by rfl, ?_⟩) (by assumption) ?_
      rotate_left
      · intro w9 hSw; (try dsimp only at hSw); go_simp; try with_reducible rfl
      try simp only [List.getElem_toArray, List.getElem_cons_succ, List.getElem_cons_zero, Act.put, List.setIfInBounds_toArray, List.set_cons_zero, List.set_cons_succ]
      refine wpAnyH_take (i := 6) (v := ?_) rfl (by kernel_rfl) (by kernel_rfl) (by kernel_rfl) (fun _ _ _ h => h) (Or.inl ⟨by rfl, ?_⟩) (by assumption) ?_
      rotate_left
      · intro w9 hSw; (try dsimp only at hSw); go_simp; try with_reducible rfl
      try simp only [List.getElem_toArray, List.getElem_cons_succ, List.getElem_cons_zero, Act.put, List.setIfInBounds_toArray, List.set_cons_zero, List.set_cons_succ]
      refine wpAnyH_take (i := 8) (v := ?_) rfl (by kernel_rfl) (by kernel_rfl) (by kernel_rfl) (fun _ _ _ h => h) (Or.inl ⟨by rfl, ?_⟩) (by assumption) ?_
      rotate_left
      · intro w9 hSw; (try dsimp only at hSw); go_simp; try with_reducible rfl
      try simp only [List.getElem_toArray, List.getElem_cons_succ, List.getElem_cons_zero, Act.put, List.setIfInBounds_toArray, List.set_cons_zero, List.set_cons_succ]
      refine wpAnyH_ready (rs := [1]) (by kernel_rfl) (by simp) ?_
      refine AllReadyH.cons rfl (fun K hK => ?_) AllReadyH.nil
      clear hHeld
      refine step_make_full (by rfl) _ _ _ (by rfl) v51.heap.size 3 i0 (.int .i64 0) 1 (by rfl) hi hz0 hz1 .i64 .i64 (x : Nat) (x : Nat) x (by rfl) (by rfl) rfl rfl (by rw [hz2]; omega) (by unfold maxLen; omega) (Nat.le_refl _) ?_
      intro v52 hown hg
      have hb : Below v51.heap.size v51 v52 := (Below.refl _ _).grown hg (Nat.le_refl _) (by simp)
      have lt_ma : v51.heap.size < v52.heap.size := (hown.lt _ rfl).2
      rw [show (Value.int .i64 0).cells = #[Value.int .i64 0] from rfl, Nat.mul_one, toList_madeCells_one, show List.replicate x (Value.int .i64 0) = (List.replicate x (0 : Int)).map (Value.int .i64) by rw [List.map_replicate]] at hown
      have HOW1 := Lib.hid hown
      clear hown hg
      have sz52 : v51.heap.size ≤ v52.heap.size := hb.size
      replace y0 := cell_keep hb y0
      replace y1 := cell_keep hb y1
      have HBh52 := Lib.hid (HBh51.out.trans (hb.mono (by have := HBh51.out.size; omega)))
      clear hb
      obtain ⟨Bm, hBm⟩ : ∃ Bm : Nat, Bm = v51.heap.size := ⟨_, rfl⟩
      rw [← hBm] at HOW1 ⊢
      have hBl : Bm < v52.heap.size ∧ wr.heap.size ≤ Bm := by have := HBh52.out.size; omega
      clear hBm
      refine hK.out _ _ ?_ (fun hHeld => ?_)
      · exact ⟨y0, y1⟩
      clear hK K
      try simp only [List.getElem_toArray, List.getElem_cons_succ, List.getElem_cons_zero, Act.put, List.setIfInBounds_toArray, List.set_cons_zero, List.set_cons_succ]
      refine wpAnyH_ready (rs := [7]) (by kernel_rfl) (by simp) ?_
      refine AllReadyH.cons rfl (fun K hK => ?_) AllReadyH.nil
      clear hHeld
      refine step_append_lies _ (by rfl) _ _ _ (by rfl) Bm 3 i0 _ 1 8 Try.underlying23 hi hz0 hz1 hz2 rfl (by omega) (.slice (some ⟨Bm, 0, none⟩) x x) x ((List.replicate x (0 : Int)).map (Value.int .i64)) (by rfl) HOW1.out ⟨bw, ow, none⟩ wsj.length pqj (wsj.map (Value.int .i64)) (by rfl) (by rw [List.length_map, Nat.mul_one]) (news_ints (HWj.out.below HBh52.out) hw1') (ones_ints wsj) (by omega) (by unfold maxLen; omega) (by omega) (by omega) _ rfl ?_
      intro gg cap v53 hown hg hat hltg
      have sz53 : v52.heap.size ≤ v53.heap.size := hg.size
      replace y0 := cell_grow hg y0 (fun g e => by have h9 : Bm = g := (by simpa [Value.ownBlock] using e); omega)
      replace y1 := cell_grow hg y1 (fun g e => by have h9 : Bm = g := (by simpa [Value.ownBlock] using e); omega)
      have HBh53 := Lib.hid (HBh52.out.grown hg (by have := HBh52.out.size; omega) (fun g e => by have h9 : Bm = g := (by simpa [Value.ownBlock] using e); omega))
      have HOW2 := Lib.hid hown
      have hgb : wr.heap.size ≤ gg := by have := (hown.lt gg rfl).1; omega
      clear hown hg hat
      refine hK.out _ _ ?_ (fun hHeld => ?_)
      · exact ⟨y0, y1⟩
      clear hK K
      try simp only [List.getElem_toArray, List.getElem_cons_succ, List.getElem_cons_zero, Act.put, List.setIfInBounds_toArray, List.set_cons_zero, List.set_cons_succ]
      refine wpAnyH_ready (rs := [9]) (by kernel_rfl) (by simp) ?_
      refine AllReadyH.cons rfl (fun K hK => ?_) AllReadyH.nil
      clear hHeld
      refine step_append_zeros _ (by rfl) _ _ _ _ (by rfl) Bm 3 i0 (.int .i64 0) 8 .i64 .i64 Try.underlying23 (by kernel_rfl) hi hz0 hz1 hz2 rfl rfl (.slice (some ⟨gg, 0, none⟩) (x + wsj.length) cap) (x + wsj.length) _ (by rfl) HOW2.out (by omega) y (by rfl) (by unfold maxLen; omega) (by omega) (by omega) ?_
      intro g5 q5 v54 hown hg hat
      have sz54 : v53.heap.size ≤ v54.heap.size := hg.size
      replace y0 := cell_grow hg y0 (fun g e => by have h9 : gg = g := (by simpa [Value.ownBlock] using e); omega)
      replace y1 := cell_grow hg y1 (fun g e => by have h9 : gg = g := (by simpa [Value.ownBlock] using e); omega)
      have HBh54 := Lib.hid (HBh53.out.grown hg (by have := HBh53.out.size; omega) (fun g e => by have h9 : gg = g := (by simpa [Value.ownBlock] using e); omega))
      rw [show (List.replicate x (0 : Int)).map (Value.int .i64) ++ wsj.map (Value.int .i64) ++ List.replicate y (Value.int .i64 0) = zsj.map (Value.int .i64) by rw [← HZS.out]; simp, show x + wsj.length + y = zsj.length by rw [← HZS.out]; simp; omega] at hown
      rw [show x + wsj.length + y = zsj.length by rw [← HZS.out]; simp; omega]
      obtain ⟨p5, hp5⟩ : ∃ p5 : Option Addr, p5 = some ⟨g5, 0, none⟩ := ⟨_, rfl⟩
      rw [← hp5] at hown ⊢
      have HOV0 := Lib.hid ((OwnI.of hown).mono (show wr.heap.size ≤ Bm by omega) (Nat.le_refl _))
      clear hown hg hat hp5
      refine hK.out _ _ ?_ (fun hHeld => ?_)
      · exact ⟨y0, y1⟩
      clear hK K
      try simp only [List.getElem_toArray, List.getElem_cons_succ, List.getElem_cons_zero, Act.put, List.setIfInBounds_toArray, List.set_cons_zero, List.set_cons_succ]
      refine wpAnyH_take (i := 10) (v := ?_) rfl (by kernel_rfl) (by kernel_rfl) (by kernel_rfl) (fun _ _ _ h => h) (Or.inl ⟨by rfl, ?_⟩) (by assumption) ?_
      rotate_left
      · intro w9 hSw; (try dsimp only at hSw); go_simp; try with_reducible rfl
      try simp only [List.getElem_toArray, List.getElem_cons_succ, List.getElem_cons_zero, Act.put, List.setIfInBounds_toArray, List.set_cons_zero, List.set_cons_succ]
      refine wpAnyH_done (by kernel_rfl) ?_ _
      refine NoPanic.normal ?_
      clear hHeld
      have HB3 := Lib.hid (below_alloc v54 (.cells #[.slice p5 zsj.length q5, .int .i64 bj] 56))
      have hs3 := HB3.out.size
      have HZ0 := Lib.hid (cell_two_new v54 (.slice p5 zsj.length q5) (.int .i64 bj) 56)
      have sv : wr.heap.size ≤ v54.heap.size := HBh54.out.size
      have HX3 := Lib.hid (HBh54.out.trans (HB3.out.mono sv))
      have hvb := fun g (e : u7.ownBlock = some g) => HO.out.1.lt g e
      have hro := ownsRow_block (w' := v54.alloc (.cells #[.slice p5 zsj.length q5, .int .i64 bj] 56)) HO.out.1 (fun g hg => HX3.out.block g (hvb g hg).2)
      rw [HTJ.out] at hro
      have HRO := Lib.hid hro
      have HOV := Lib.hid ((HOV0.out.below HB3.out).mono (Nat.le_refl _) hs3)
      have HVB := Lib.hid hvb
      clear hro hvb HOV0 HOW1 HOW2 y0
      go_wp2_with (at_builtin; refine wpList_append_own _ rfl _ _ 110 rfl w.heap.size 56 j0 (.agg #[.slice none 0 0, .int .i64 0]) 2 32 Try.underlying110 hj hjz0 hjz1 hjz2 rfl (by decide) _ _ _ rfl HRO.out ⟨v54.heap.size, 0, none⟩ 1 1 [.slice p5 zsj.length q5, .int .i64 bj] rfl rfl HZ0.out (by simp [Value.oneCell']) (by unfold maxLen; omega) (by omega) (by simp; omega) ?_; intro v' w5 hown' hgrow _)
      have HPU := Lib.hid (OwnK.push (b := bj) HO.out HX3.out (by omega) HOV.out (by rw [HTJ.out]; exact hown') hgrow)
      have HB5 := Lib.hid (show Below w.heap.size w w5 from (HBl.out.trans (HX3.out.mono hsz)).grown hgrow (by omega) (fun g e => (HVB.out g e).1))
      clear hown' hgrow
      go_wp2_with fail
      go_roundw
      case rel => exact ⟨k + 1, _, by omega, by go_num, by rw [HTK.out]; exact HPU.out, HB5.out⟩
      case measure => simp [intOf]; omega
    · obtain rfl : k = ps.length := by omega
      have hoj := hown
      rw [List.take_of_length_le (Nat.le_of_eq (wid_len x y ps))] at hoj
      obtain ⟨pn, qn, hvn, _, _, _⟩ := (show OwnJ w.heap.size wr.heap.size wr u7 (widJ x y ps) from ⟨cs, hoj⟩).slice
      rw [wid_len] at hvn
      subst hvn
      have HF := Lib.hid hoj
      clear hown hbel hoj HO
      go_wp2_with fail
      go_ret
      exact ⟨pn, qn, cs, rfl, HF.out, HBl.out⟩
end Go.Proofs.Ytkbcofgigfnfaab.wids
