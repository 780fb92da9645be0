/- The program's planes, widened by zeros. -/
import Derived.Test.YtkbcofgigfnfaabConcM
import Derived.Test.YtkbcofgigfnfaabStmp
import Derived.Test.YtkbcofgigfnfaabOwn1
import Derived.Deep.RegionHeld3
import Derived.Deep.DrawnRows
import Derived.OwnWalk
import Derived.Test.YtkbcofgigfnfaabWidP
namespace Go.Proofs.Ytkbcofgigfnfaab.widg
open Go.RowKit own own1 concate concl concm stmp widp
set_option linter.unusedVariables false
set_option linter.unusedSimpArgs false

theorem block_lt_of_cell {w : World} {a : Addr} {x : Value} (h : w.cell? a = some x) : a.block < w.heap.size := World.block_lt_of_cell? w a h
theorem cell_keep {W W' : World} (h : Below W.heap.size W W') {b o : Nat} {x : Value} (hx : W.cell? ⟨b, o, none⟩ = some x) : W'.cell? ⟨b, o, none⟩ = some x :=
  cell_below h hx (block_lt_of_cell (a := ⟨b, o, none⟩) hx)
theorem fro_keep {W W' : World} (h : Below W.heap.size W W') {b o o' : Nat} {x : Value} (hx : W.cell? ⟨b, o', none⟩ = some x) (hf : W.frozen? ⟨b, o, none⟩ = false) : W'.frozen? ⟨b, o, none⟩ = false :=
  fro_below h hf (block_lt_of_cell (a := ⟨b, o', none⟩) hx)
theorem cell_grow {W W' : World} {row : Option Nat} (h : W.grownBy W' row) {b o : Nat} {x : Value} (hx : W.cell? ⟨b, o, none⟩ = some x) (hne : ∀ g, row = some g → b ≠ g) : W'.cell? ⟨b, o, none⟩ = some x :=
  (World.cell?_of_block (h.block b (block_lt_of_cell (a := ⟨b, o, none⟩) hx) (fun e => hne b e.symm rfl))).trans hx
theorem fro_grow {W W' : World} {row : Option Nat} (h : W.grownBy W' row) {b o o' : Nat} {x : Value} (hx : W.cell? ⟨b, o', none⟩ = some x) (hf : W.frozen? ⟨b, o, none⟩ = false) (hne : ∀ g, row = some g → b ≠ g) : W'.frozen? ⟨b, o, none⟩ = false :=
  (World.frozen?_of_block (a := ⟨b, o, none⟩) (h.block b (block_lt_of_cell (a := ⟨b, o', none⟩) hx) (fun e => hne b e.symm rfl))).trans hf
theorem cell_set2 {W : World} {b o b' o' : Nat} {x : Value} (hx : W.cell? ⟨b, o, none⟩ = some x) (hne : b ≠ b') (u : Value) : (W.setCell ⟨b', o', none⟩ u).cell? ⟨b, o, none⟩ = some x :=
  (World.cell?_of_block (Below.heap_setCell _ _ _ _ (by show b ≠ b'; exact hne))).trans hx
theorem zeros_own {W : World} {lo n b : Nat} (h : W.ownsRow lo 3 1 (.slice (some ⟨b, 0, none⟩) n n) n ((List.replicate n (0 : Int)).map (Value.int .i64))) : OwnI b (b + 1) W (.slice (some ⟨b, 0, none⟩) (List.replicate n (0 : Int)).length n) (List.replicate n 0) := by
  have h2 : W.ownsRow lo 3 1 (.slice (some ⟨b, 0, none⟩) (List.replicate n (0 : Int)).length n) (List.replicate n (0 : Int)).length ((List.replicate n (0 : Int)).map (Value.int .i64)) := by rw [List.length_replicate]; exact h
  exact ⟨ownsRow_base h2 (fun g e => by obtain rfl : b = g := (by simpa [Value.ownBlock] using e); exact Nat.le_refl _), fun g e => by obtain rfl : b = g := (by simpa [Value.ownBlock] using e); omega⟩
/-- A make at its whole length, in a region that draws its order. -/
theorem step_make_full {P : Program} {ops : Array Oper} {o : Oper} {a : Act} {w : World} {K : Act → World → Prop} {Q : Exit → Act → World → Prop} {E : Prop}
    (hg : o.guard = none) (l c : Operand) (t : TypeId) (hop : o.op = Op.makeSlice t l c)
    (base : Nat) (e : TypeId) (i : TypeInfo) (z : Value) (size : Nat) (h1 : P.underlying t = some (.slice e)) (h2 : P.info? e = some i) (h3 : i.zero = some z) (h4 : i.size = size)
    (kl kc : IntKind) (L C : Int) (n : Nat) (hl : a.eval l = .int kl L) (hc : a.eval c = .int kc C) (hL : L = (n : Int)) (hC : C = (n : Int)) (b2 : i.bytes * n ≤ 281474976710656) (b3 : n ≤ maxLen) (b4 : base ≤ w.heap.size)
    (hK : ∀ w', w'.ownsRow base e size (.slice (some ⟨w.heap.size, 0, none⟩) n n) n (madeCells z.cells (n * size)).toList → w.grownBy w' none → K (a.put o.dst (.slice (some ⟨w.heap.size, 0, none⟩) n n)) w') :
    if Region.wanted o (yielded ops a.tmps) = true then Oper.wp P o a w K Q else E := by
  have hw : Region.wanted o (yielded ops a.tmps) = true := by simp [Region.wanted, hg]
  rw [if_pos hw]
  obtain ⟨w', hrun, r1, r2⟩ := run_make_full (P := P) w base t e i z size h1 h2 h3 h4 kl kc n b2 b3 b4
  subst hL
  subst hC
  unfold Oper.wp
  simp [execOp, hop, hl, hc, hrun, Result.andThen]
  exact hK w' r1 r2
theorem concat3 (b bx b0 cc x y : Nat) (p : Option Addr) (ws : List Int) (q : Nat) (w : World) (hb : b < w.heap.size) (hbx : bx < w.heap.size) (hb0 : b0 < w.heap.size) (h1 : 1 ≤ ws.length) (h4 : ws.length ≤ 100) (hx4 : x ≤ 100) (hy4 : y ≤ 100) (hr : ints.Reads .i64 w p ws)
    (hX : OwnI bx (bx + 1) w (.slice (some ⟨bx, 0, none⟩) (List.replicate x (0 : Int)).length x) (List.replicate x 0)) (hY : OwnI b0 (b0 + 1) w (.slice (some ⟨b0, 0, none⟩) (List.replicate y (0 : Int)).length y) (List.replicate y 0))
    (c0 : w.cell? ⟨b, 0, none⟩ = some (.slice (some ⟨bx, 0, none⟩) x x)) (c1 : w.cell? ⟨b, 1, none⟩ = some (.slice p ws.length q)) (c2 : w.cell? ⟨b, 2, none⟩ = some (.slice (some ⟨b0, 0, none⟩) y y)) :
    Calls Try.prog 166 #[.slice (some ⟨b, 0, none⟩) 3 cc] w (intfns.Made (List.replicate x 0 ++ ws ++ List.replicate y 0) w) := by
  obtain ⟨bw, ow, rfl, hbw, hcw⟩ := reads_pos hr (by omega)
  have hz : ∀ (z : Nat) (bz : Nat), OwnI bz (bz + 1) w (.slice (some ⟨bz, 0, none⟩) (List.replicate z (0 : Int)).length z) (List.replicate z 0) → ∀ (i : Nat) (u : Value), (List.replicate z (Value.int .i64 0))[i]? = some u → w.cell? ((⟨bz, 0, none⟩ : Addr).add i) = some u := fun z bz h i u hu => by
    have hi : i < z := by have := (List.getElem?_eq_some_iff.1 hu).1; simpa using this
    have hx := h.1.cellAt i (by simp; omega)
    rw [Go.WideShapes.add_plain, Nat.zero_add, hx, List.map_replicate, hu]
  refine (concatM b 0 3 cc (fun k => if k = 0 then some ⟨bx, 0, none⟩ else if k = 1 then some ⟨bw, ow, none⟩ else some ⟨b0, 0, none⟩) (fun k => if k = 0 then x else if k = 1 then ws.length else y) (fun k => if k = 0 then x else if k = 1 then q else y) (fun k => if k = 0 then List.replicate x (Value.int .i64 0) else if k = 1 then ws.map (Value.int .i64) else List.replicate y (Value.int .i64 0)) w hb (by omega) (by simp [sumN]; omega) (Lib.hid fun k hk => ?_)).mono ?_
  · have h3 : k = 0 ∨ k = 1 ∨ k = 2 := by omega
    rcases h3 with rfl | rfl | rfl
    · exact ⟨by simpa using c0, ⟨bx, 0, rfl, hbx, fun i u hu => hz x bx hX i u (by simpa using hu)⟩, by simp, fun u hu => by rw [if_pos rfl] at hu; rw [List.eq_of_mem_replicate hu]; rfl⟩
    · refine ⟨by simpa using c1, ⟨bw, ow, rfl, hbw, fun i u hu => ?_⟩, by simp, fun u hu => by simp at hu; obtain ⟨z, _, rfl⟩ := hu; rfl⟩
      rw [Go.WideShapes.add_plain]
      have hu' : (ws.map (Value.int .i64))[i]? = some u := by simpa using hu
      have hi : i < ws.length := by have := (List.getElem?_eq_some_iff.1 hu').1; simpa using this
      rw [hcw i hi]
      rw [List.getElem?_map, List.getElem?_eq_getElem hi] at hu'
      rw [← hu', List.getD_eq_getElem?_getD, List.getElem?_eq_getElem hi]; rfl
    · exact ⟨by simpa using c2, ⟨b0, 0, rfl, hb0, fun i u hu => hz y b0 hY i u (by simpa using hu)⟩, by simp, fun u hu => by rw [if_neg (by omega), if_neg (by omega)] at hu; rw [List.eq_of_mem_replicate hu]; rfl⟩
  · rintro e w' ⟨v, rfl, ho, hB⟩
    have e1 : sumN (fun k => if k = 0 then x else if k = 1 then ws.length else y) 3 = (List.replicate x (0 : Int) ++ ws ++ List.replicate y 0).length := by simp [sumN]; try omega
    have e2 : catV (fun k => if k = 0 then List.replicate x (Value.int .i64 0) else if k = 1 then ws.map (Value.int .i64) else List.replicate y (Value.int .i64 0)) 3 = (List.replicate x (0 : Int) ++ ws ++ List.replicate y 0).map (Value.int .i64) := by simp [catV]
    rw [e1, e2] at ho
    exact ⟨v, rfl, OwnI.of ho, hB⟩
set_option maxRecDepth 100000 in
set_option maxHeartbeats 1600000 in
theorem impl_wide (x y : Nat) (a : Option Addr) (ps : List (List Int × Int)) (c : Nat) (w : World) (hx : x ≤ 100) (hy : y ≤ 100) (hr : ReadsJ w a ps) (hn : ps.length ≤ 1000) (hm : ∀ k, k < ps.length → 1 ≤ (ps.getD k ([], 0)).1.length ∧ (ps.getD k ([], 0)).1.length ≤ 100) :
    Calls Try.prog 91 #[.slice a ps.length c, .int .i64 x, .int .i64 y] w (fun e w' => ∃ p q cs, e = .returned (.slice p ps.length q) ∧ OwnK w.heap.size w'.heap.size w' (.slice p ps.length q) (widJ x y ps) cs ∧ Below w.heap.size w w') := by
  obtain ⟨i0, hi, hz0, hz1, hz2⟩ := info_parts infoInt
  obtain ⟨j0, hj, hjz0, hjz1, hjz2⟩ := info_parts infoP
  have Hhr := Lib.hid hr
  have HM := Lib.hid hm
  clear hr hm
  go_enter Try.func91, Try.ntmps91
  have hown0 := (emptyJ w).widen (Nat.le_refl _) (show w.heap.size + 1 ≤ (w.alloc (.cells #[] 56)).heap.size by simp)
  have hb0 := below_alloc w (.cells #[] 56)
  go_wp2_with fail
  go_loopw [7, 14] (fun v i wr => ∃ (k : Nat) (cs : List Value), k ≤ ps.length ∧ i = .int .i64 k ∧ OwnK w.heap.size wr.heap.size wr v ((widJ x y ps).take k) cs ∧ Below w.heap.size w wr) (fun _ i _ => ps.length - (intOf i).toNat)
  case atStart => exact ⟨0, [], Nat.zero_le _, rfl, hown0, hb0⟩
  case round =>
    obtain ⟨k, cs, hk9, rfl, hown, hbel⟩ := hrel
    have hsz := hbel.size
    have HO := Lib.hid hown
    have HBl := Lib.hid hbel
    clear hown0 hb0
    by_cases hlt : k < ps.length
    · obtain ⟨g, go, pj, pqj, rfl, hgl, kj, dj, _, hrowj⟩ := (Hhr.out.below hbel).at hlt
      have hw1' := (HM.out k hlt).1
      have hw4 := (HM.out k hlt).2
      have HTK := Lib.hid (wid_take x y ps k hlt)
      have HTJ := Lib.hid (show ((widJ x y ps).take k).length = k by rw [List.length_take, wid_len]; omega)
      have HWj := Lib.hid hrowj
      clear hown hbel hrowj
      generalize (ps.getD k ([], 0)).1 = wsj at *
      generalize (ps.getD k ([], 0)).2 = bj at *
      obtain ⟨zsj, hzsj⟩ : ∃ zsj, zsj = List.replicate x 0 ++ wsj ++ List.replicate y 0 := ⟨_, rfl⟩
      rw [← hzsj] at HTK
      have HZS := Lib.hid hzsj.symm
      clear hzsj
      obtain ⟨w1, hw1⟩ : ∃ w1 : World, w1 = wr.alloc (.cells #[.slice pj wsj.length pqj, .int .i64 bj] 56) := ⟨_, rfl⟩
      have y0 : w1.cell? ⟨wr.heap.size, 0, none⟩ = some (.slice pj wsj.length pqj) := by rw [hw1]; exact cell_new _ _ _ rfl rfl
      have y1 : w1.cell? ⟨wr.heap.size, 1, none⟩ = some (.int .i64 bj) := by rw [hw1]; exact cell_new _ _ _ rfl rfl
      have HBs := Lib.hid (show Below wr.heap.size wr w1 by rw [hw1]; exact below_alloc _ _)
      have hsw : wr.heap.size < w1.heap.size := by rw [hw1]; simp
      go_wp2_with fail
      rw [← hw1]
      clear hw1 kj dj
      refine wp_region_noPanic ?_
      refine wp_region_held_drew (S := fun w' => w'.cell? ⟨wr.heap.size, 0, none⟩ = some (.slice pj wsj.length pqj) ∧ w'.cell? ⟨wr.heap.size, 1, none⟩ = some (.int .i64 bj)) (by kernel_rfl) ?_ (fun hHeld => ?_)
      · exact ⟨y0, y1⟩
      have hb : Below w1.heap.size w1 w1.drew := (Below.refl _ _).drew
      generalize hwn : w1.drew = v51 at *
      clear hwn
      have sz51 : w1.heap.size ≤ v51.heap.size := hb.size
      replace y0 := cell_keep hb y0
      replace y1 := cell_keep hb y1
      have HBh51 := Lib.hid (HBs.out.trans (hb.mono (by have := HBs.out.size; omega)))
      clear hb
      refine wpAnyH_take (i := 0) (v := ?_) rfl (by kernel_rfl) (by kernel_rfl) (by kernel_rfl) (fun _ _ _ h => h) (Or.inl ⟨by rfl, ?_⟩) (by assumption) ?_
      rotate_left
      · intro w9 hSw; (try dsimp only at hSw); go_simp; try with_reducible rfl
      try simp only [List.getElem_toArray, List.getElem_cons_succ, List.getElem_cons_zero, Act.put, List.setIfInBounds_toArray, List.set_cons_zero, List.set_cons_succ]
      refine wpAnyH_take (i := 2) (v := ?_) rfl (by kernel_rfl) (by kernel_rfl) (by kernel_rfl) (fun _ _ _ h => h) (Or.inl ⟨by rfl, ?_⟩) (by assumption) ?_
      rotate_left
      · intro w9 hSw; (try dsimp only at hSw); go_simp; try with_reducible rfl
      try simp only [List.getElem_toArray, List.getElem_cons_succ, List.getElem_cons_zero, Act.put, List.setIfInBounds_toArray, List.set_cons_zero, List.set_cons_succ]
      refine wpAnyH_take (i := 3) (v := ?_) rfl (by kernel_rfl) (by kernel_rfl) (by kernel_rfl) (fun _ _ _ h => h) (Or.inl ⟨by rfl, ?_⟩) (by assumption) ?_
      rotate_left
      · intro w9 hSw; (try dsimp only at hSw); go_simp; try with_reducible rfl
      try simp only [List.getElem_toArray, List.getElem_cons_succ, List.getElem_cons_zero, Act.put, List.setIfInBounds_toArray, List.set_cons_zero, List.set_cons_succ]
      refine wpAnyH_take (i := 4) (v := ?_) rfl (by kernel_rfl) (by kernel_rfl) (by kernel_rfl) (fun _ _ _ h => h) (Or.inl ⟨by rfl, ?_⟩) (by assumption) ?_
      rotate_left
      · intro w9 hSw; (try dsimp only at hSw); go_simp; try with_reducible rfl
      try simp only [List.getElem_toArray, List.getElem_cons_succ, List.getElem_cons_zero, Act.put, List.setIfInBounds_toArray, List.set_cons_zero, List.set_cons_succ]
      refine wpAnyH_ready (rs := [1, 5]) (by kernel_rfl) (by simp) ?_
      refine AllReadyH.cons rfl (fun K hK => ?_) ?_
      · skip
        clear hHeld
        refine step_make_full (by rfl) _ _ _ (by rfl) v51.heap.size 3 i0 (.int .i64 0) 1 (by rfl) hi hz0 hz1 .i64 .i64 (x : Nat) (x : Nat) x (by rfl) (by rfl) rfl rfl (by rw [hz2]; omega) (by unfold maxLen; omega) (Nat.le_refl _) ?_
        intro v52 hown hg
        have hb : Below v51.heap.size v51 v52 := (Below.refl _ _).grown hg (Nat.le_refl _) (by simp)
        have lt_ma : v51.heap.size < v52.heap.size := (hown.lt _ rfl).2
        rw [show (Value.int .i64 0).cells = #[Value.int .i64 0] from rfl, Nat.mul_one, toList_madeCells_one, show List.replicate x (Value.int .i64 0) = (List.replicate x (0 : Int)).map (Value.int .i64) by rw [List.map_replicate]] at hown
        obtain ⟨Bma, hBma⟩ : ∃ Bma : Nat, Bma = v51.heap.size := ⟨_, rfl⟩
        rw [← hBma] at hown ⊢
        have HZma := Lib.hid (zeros_own (n := x) hown)
        clear hown hg
        have sz52 : v51.heap.size ≤ v52.heap.size := hb.size
        replace y0 := cell_keep hb y0
        replace y1 := cell_keep hb y1
        have HBh52 := Lib.hid (HBh51.out.trans (hb.mono (by have := HBh51.out.size; omega)))
        clear hb
        have hBlma : Bma < v52.heap.size := by omega
        clear hBma
        refine hK.out _ _ ?_ (fun hHeld => ?_)
        · exact ⟨y0, y1⟩
        clear hK K
        try simp only [List.getElem_toArray, List.getElem_cons_succ, List.getElem_cons_zero, Act.put, List.setIfInBounds_toArray, List.set_cons_zero, List.set_cons_succ]
        refine wpAnyH_ready (rs := [5]) (by kernel_rfl) (by simp) ?_
        refine AllReadyH.cons rfl (fun K hK => ?_) AllReadyH.nil
        clear hHeld
        refine step_make_full (by rfl) _ _ _ (by rfl) v52.heap.size 3 i0 (.int .i64 0) 1 (by rfl) hi hz0 hz1 .i64 .i64 (y : Nat) (y : Nat) y (by rfl) (by rfl) rfl rfl (by rw [hz2]; omega) (by unfold maxLen; omega) (Nat.le_refl _) ?_
        intro v53 hown hg
        have hb : Below v52.heap.size v52 v53 := (Below.refl _ _).grown hg (Nat.le_refl _) (by simp)
        have lt_mb : v52.heap.size < v53.heap.size := (hown.lt _ rfl).2
        rw [show (Value.int .i64 0).cells = #[Value.int .i64 0] from rfl, Nat.mul_one, toList_madeCells_one, show List.replicate y (Value.int .i64 0) = (List.replicate y (0 : Int)).map (Value.int .i64) by rw [List.map_replicate]] at hown
        obtain ⟨Bmb, hBmb⟩ : ∃ Bmb : Nat, Bmb = v52.heap.size := ⟨_, rfl⟩
        rw [← hBmb] at hown ⊢
        have HZmb := Lib.hid (zeros_own (n := y) hown)
        clear hown hg
        have sz53 : v52.heap.size ≤ v53.heap.size := hb.size
        replace y0 := cell_keep hb y0
        replace y1 := cell_keep hb y1
        replace HZma := Lib.hid (HZma.out.below hb)
        have HBh53 := Lib.hid (HBh52.out.trans (hb.mono (by have := HBh52.out.size; omega)))
        clear hb
        have hBlmb : Bmb < v53.heap.size := by omega
        clear hBmb
        refine hK.out _ _ ?_ (fun hHeld => ?_)
        · exact ⟨y0, y1⟩
        clear hK K
        try simp only [List.getElem_toArray, List.getElem_cons_succ, List.getElem_cons_zero, Act.put, List.setIfInBounds_toArray, List.set_cons_zero, List.set_cons_succ]
        refine wpAnyH_ready (rs := [6]) (by kernel_rfl) (by simp) ?_
        refine AllReadyH.cons rfl (fun K hK => ?_) AllReadyH.nil
        clear hHeld
        go_simp
        have pl_0 : (v53.alloc (.cells #[.slice (some ⟨Bma, 0, none⟩) x x, .slice pj wsj.length pqj, .slice (some ⟨Bmb, 0, none⟩) y y] 23)).cell? ⟨v53.heap.size, 0, none⟩ = some (.slice (some ⟨Bma, 0, none⟩) x x) := cell_new _ _ _ rfl rfl
        have pl_f0 : (v53.alloc (.cells #[.slice (some ⟨Bma, 0, none⟩) x x, .slice pj wsj.length pqj, .slice (some ⟨Bmb, 0, none⟩) y y] 23)).frozen? ⟨v53.heap.size, 0, none⟩ = false := fro_new _ _ _ rfl
        have pl_1 : (v53.alloc (.cells #[.slice (some ⟨Bma, 0, none⟩) x x, .slice pj wsj.length pqj, .slice (some ⟨Bmb, 0, none⟩) y y] 23)).cell? ⟨v53.heap.size, 1, none⟩ = some (.slice pj wsj.length pqj) := cell_new _ _ _ rfl rfl
        have pl_f1 : (v53.alloc (.cells #[.slice (some ⟨Bma, 0, none⟩) x x, .slice pj wsj.length pqj, .slice (some ⟨Bmb, 0, none⟩) y y] 23)).frozen? ⟨v53.heap.size, 1, none⟩ = false := fro_new _ _ _ rfl
        have pl_2 : (v53.alloc (.cells #[.slice (some ⟨Bma, 0, none⟩) x x, .slice pj wsj.length pqj, .slice (some ⟨Bmb, 0, none⟩) y y] 23)).cell? ⟨v53.heap.size, 2, none⟩ = some (.slice (some ⟨Bmb, 0, none⟩) y y) := cell_new _ _ _ rfl rfl
        have pl_f2 : (v53.alloc (.cells #[.slice (some ⟨Bma, 0, none⟩) x x, .slice pj wsj.length pqj, .slice (some ⟨Bmb, 0, none⟩) y y] 23)).frozen? ⟨v53.heap.size, 2, none⟩ = false := fro_new _ _ _ rfl
        have hb := below_alloc v53 (.cells #[.slice (some ⟨Bma, 0, none⟩) x x, .slice pj wsj.length pqj, .slice (some ⟨Bmb, 0, none⟩) y y] 23)
        have lt_pl := size_alloc' v53 (.cells #[.slice (some ⟨Bma, 0, none⟩) x x, .slice pj wsj.length pqj, .slice (some ⟨Bmb, 0, none⟩) y y] 23)
        generalize hwn : v53.alloc (.cells #[.slice (some ⟨Bma, 0, none⟩) x x, .slice pj wsj.length pqj, .slice (some ⟨Bmb, 0, none⟩) y y] 23) = v54 at *
        clear hwn
        have sz54 : v53.heap.size ≤ v54.heap.size := hb.size
        replace y0 := cell_keep hb y0
        replace y1 := cell_keep hb y1
        replace HZma := Lib.hid (HZma.out.below hb)
        replace HZmb := Lib.hid (HZmb.out.below hb)
        have HBh54 := Lib.hid (HBh53.out.trans (hb.mono (by have := HBh53.out.size; omega)))
        clear hb
        obtain ⟨Bpl, hBpl⟩ : ∃ Bpl : Nat, Bpl = v53.heap.size := ⟨_, rfl⟩
        rw [← hBpl] at pl_0 pl_f0 pl_1 pl_f1 pl_2 pl_f2 ⊢
        have hBlpl : Bpl ≤ v53.heap.size ∧ v53.heap.size ≤ Bpl := by omega
        clear hBpl
        refine hK.out _ _ ?_ (fun hHeld => ?_)
        · exact ⟨y0, y1⟩
        clear hK K
        try simp only [List.getElem_toArray, List.getElem_cons_succ, List.getElem_cons_zero, Act.put, List.setIfInBounds_toArray, List.set_cons_zero, List.set_cons_succ]
        refine wpAnyH_ready (rs := [7]) (by kernel_rfl) (by simp) ?_
        refine AllReadyH.cons rfl (fun K hK => ?_) AllReadyH.nil
        clear hHeld
        go_simp
        refine (concat3 Bpl Bma Bmb _ x y pj wsj pqj v54 (by omega) (by omega) (by omega) hw1' hw4 hx hy (HWj.out.below (HBh54.out)) HZma.out HZmb.out pl_0 pl_1 pl_2).mono ?_
        rw [HZS.out]
        rintro e v55 ⟨v, rfl, ho, hb⟩
        obtain ⟨p5, q5, rfl, _, _, _⟩ := ho.slice
        have sz55 : v54.heap.size ≤ v55.heap.size := hb.size
        replace pl_f0 := fro_keep hb pl_0 pl_f0
        replace pl_f1 := fro_keep hb pl_1 pl_f1
        replace pl_f2 := fro_keep hb pl_2 pl_f2
        replace y0 := cell_keep hb y0
        replace y1 := cell_keep hb y1
        replace pl_0 := cell_keep hb pl_0
        replace pl_1 := cell_keep hb pl_1
        replace pl_2 := cell_keep hb pl_2
        replace HZma := Lib.hid (HZma.out.below hb)
        replace HZmb := Lib.hid (HZmb.out.below hb)
        have HBh55 := Lib.hid (HBh54.out.trans (hb.mono (by have := HBh54.out.size; omega)))
        clear hb
        clear HZma HZmb
        have HOV0 := Lib.hid (ho.mono (show wr.heap.size ≤ v54.heap.size by omega) (Nat.le_refl _))
        clear ho
        refine hK.out _ _ ?_ (fun hHeld => ?_)
        · exact ⟨y0, y1⟩
        clear hK K
        try simp only [List.getElem_toArray, List.getElem_cons_succ, List.getElem_cons_zero, Act.put, List.setIfInBounds_toArray, List.set_cons_zero, List.set_cons_succ]
        refine wpAnyH_take (i := 8) (v := ?_) rfl (by kernel_rfl) (by kernel_rfl) (by kernel_rfl) (fun _ _ _ h => h) (Or.inl ⟨by rfl, ?_⟩) (by assumption) ?_
        rotate_left
        · intro w9 hSw; (try dsimp only at hSw); go_simp; try with_reducible rfl
        try simp only [List.getElem_toArray, List.getElem_cons_succ, List.getElem_cons_zero, Act.put, List.setIfInBounds_toArray, List.set_cons_zero, List.set_cons_succ]
        refine wpAnyH_done (by kernel_rfl) ?_ _
        refine NoPanic.normal ?_
        clear hHeld
        have HB3 := Lib.hid (below_alloc v55 (.cells #[.slice p5 zsj.length q5, .int .i64 bj] 56))
        have hs3 := HB3.out.size
        have HZ0 := Lib.hid (cell_two_new v55 (.slice p5 zsj.length q5) (.int .i64 bj) 56)
        have sv : wr.heap.size ≤ v55.heap.size := HBh55.out.size
        have HX3 := Lib.hid (HBh55.out.trans (HB3.out.mono sv))
        have hvb := fun g (e : u7.ownBlock = some g) => HO.out.1.lt g e
        have hro := ownsRow_block (w' := v55.alloc (.cells #[.slice p5 zsj.length q5, .int .i64 bj] 56)) HO.out.1 (fun g hg => HX3.out.block g (hvb g hg).2)
        rw [HTJ.out] at hro
        have HRO := Lib.hid hro
        have HOV := Lib.hid ((HOV0.out.below HB3.out).mono (Nat.le_refl _) hs3)
        have HVB := Lib.hid hvb
        clear hro hvb HOV0 pl_0 pl_1 pl_2 pl_f0 pl_f1 pl_f2 y0
        go_wp2_with (at_builtin; refine wpList_append_own _ rfl _ _ 110 rfl w.heap.size 56 j0 (.agg #[.slice none 0 0, .int .i64 0]) 2 32 Try.underlying110 hj hjz0 hjz1 hjz2 rfl (by decide) _ _ _ rfl HRO.out ⟨v55.heap.size, 0, none⟩ 1 1 [.slice p5 zsj.length q5, .int .i64 bj] rfl rfl HZ0.out (by simp [Value.oneCell']) (by unfold maxLen; omega) (by omega) (by simp; omega) ?_; intro v' w5 hown' hgrow _)
        have HPU := Lib.hid (OwnK.push (b := bj) HO.out HX3.out (by omega) HOV.out (by rw [HTJ.out]; exact hown') hgrow)
        have HB5 := Lib.hid (show Below w.heap.size w w5 from (HBl.out.trans (HX3.out.mono hsz)).grown hgrow (by omega) (fun g e => (HVB.out g e).1))
        clear hown' hgrow
        go_wp2_with fail
        go_roundw
        case rel => exact ⟨k + 1, _, by omega, by go_num, by rw [HTK.out]; exact HPU.out, HB5.out⟩
        case measure => simp [intOf]; omega
      refine AllReadyH.cons rfl (fun K hK => ?_) AllReadyH.nil
      clear hHeld
      refine step_make_full (by rfl) _ _ _ (by rfl) v51.heap.size 3 i0 (.int .i64 0) 1 (by rfl) hi hz0 hz1 .i64 .i64 (y : Nat) (y : Nat) y (by rfl) (by rfl) rfl rfl (by rw [hz2]; omega) (by unfold maxLen; omega) (Nat.le_refl _) ?_
      intro v52 hown hg
      have hb : Below v51.heap.size v51 v52 := (Below.refl _ _).grown hg (Nat.le_refl _) (by simp)
      have lt_mb : v51.heap.size < v52.heap.size := (hown.lt _ rfl).2
      rw [show (Value.int .i64 0).cells = #[Value.int .i64 0] from rfl, Nat.mul_one, toList_madeCells_one, show List.replicate y (Value.int .i64 0) = (List.replicate y (0 : Int)).map (Value.int .i64) by rw [List.map_replicate]] at hown
      obtain ⟨Bmb, hBmb⟩ : ∃ Bmb : Nat, Bmb = v51.heap.size := ⟨_, rfl⟩
      rw [← hBmb] at hown ⊢
      have HZmb := Lib.hid (zeros_own (n := y) hown)
      clear hown hg
      have sz52 : v51.heap.size ≤ v52.heap.size := hb.size
      replace y0 := cell_keep hb y0
      replace y1 := cell_keep hb y1
      have HBh52 := Lib.hid (HBh51.out.trans (hb.mono (by have := HBh51.out.size; omega)))
      clear hb
      have hBlmb : Bmb < v52.heap.size := by omega
      clear hBmb
      refine hK.out _ _ ?_ (fun hHeld => ?_)
      · exact ⟨y0, y1⟩
      clear hK K
      try simp only [List.getElem_toArray, List.getElem_cons_succ, List.getElem_cons_zero, Act.put, List.setIfInBounds_toArray, List.set_cons_zero, List.set_cons_succ]
      refine wpAnyH_ready (rs := [1]) (by kernel_rfl) (by simp) ?_
      refine AllReadyH.cons rfl (fun K hK => ?_) AllReadyH.nil
      clear hHeld
      refine step_make_full (by rfl) _ _ _ (by rfl) v52.heap.size 3 i0 (.int .i64 0) 1 (by rfl) hi hz0 hz1 .i64 .i64 (x : Nat) (x : Nat) x (by rfl) (by rfl) rfl rfl (by rw [hz2]; omega) (by unfold maxLen; omega) (Nat.le_refl _) ?_
      intro v53 hown hg
      have hb : Below v52.heap.size v52 v53 := (Below.refl _ _).grown hg (Nat.le_refl _) (by simp)
      have lt_ma : v52.heap.size < v53.heap.size := (hown.lt _ rfl).2
      rw [show (Value.int .i64 0).cells = #[Value.int .i64 0] from rfl, Nat.mul_one, toList_madeCells_one, show List.replicate x (Value.int .i64 0) = (List.replicate x (0 : Int)).map (Value.int .i64) by rw [List.map_replicate]] at hown
      obtain ⟨Bma, hBma⟩ : ∃ Bma : Nat, Bma = v52.heap.size := ⟨_, rfl⟩
      rw [← hBma] at hown ⊢
      have HZma := Lib.hid (zeros_own (n := x) hown)
      clear hown hg
      have sz53 : v52.heap.size ≤ v53.heap.size := hb.size
      replace y0 := cell_keep hb y0
      replace y1 := cell_keep hb y1
      replace HZmb := Lib.hid (HZmb.out.below hb)
      have HBh53 := Lib.hid (HBh52.out.trans (hb.mono (by have := HBh52.out.size; omega)))
      clear hb
      have hBlma : Bma < v53.heap.size := by omega
      clear hBma
      refine hK.out _ _ ?_ (fun hHeld => ?_)
      · exact ⟨y0, y1⟩
      clear hK K
      try simp only [List.getElem_toArray, List.getElem_cons_succ, List.getElem_cons_zero, Act.put, List.setIfInBounds_toArray, List.set_cons_zero, List.set_cons_succ]
      refine wpAnyH_ready (rs := [6]) (by kernel_rfl) (by simp) ?_
      refine AllReadyH.cons rfl (fun K hK => ?_) AllReadyH.nil
      clear hHeld
      go_simp
      have pl_0 : (v53.alloc (.cells #[.slice (some ⟨Bma, 0, none⟩) x x, .slice pj wsj.length pqj, .slice (some ⟨Bmb, 0, none⟩) y y] 23)).cell? ⟨v53.heap.size, 0, none⟩ = some (.slice (some ⟨Bma, 0, none⟩) x x) := cell_new _ _ _ rfl rfl
      have pl_f0 : (v53.alloc (.cells #[.slice (some ⟨Bma, 0, none⟩) x x, .slice pj wsj.length pqj, .slice (some ⟨Bmb, 0, none⟩) y y] 23)).frozen? ⟨v53.heap.size, 0, none⟩ = false := fro_new _ _ _ rfl
      have pl_1 : (v53.alloc (.cells #[.slice (some ⟨Bma, 0, none⟩) x x, .slice pj wsj.length pqj, .slice (some ⟨Bmb, 0, none⟩) y y] 23)).cell? ⟨v53.heap.size, 1, none⟩ = some (.slice pj wsj.length pqj) := cell_new _ _ _ rfl rfl
      have pl_f1 : (v53.alloc (.cells #[.slice (some ⟨Bma, 0, none⟩) x x, .slice pj wsj.length pqj, .slice (some ⟨Bmb, 0, none⟩) y y] 23)).frozen? ⟨v53.heap.size, 1, none⟩ = false := fro_new _ _ _ rfl
      have pl_2 : (v53.alloc (.cells #[.slice (some ⟨Bma, 0, none⟩) x x, .slice pj wsj.length pqj, .slice (some ⟨Bmb, 0, none⟩) y y] 23)).cell? ⟨v53.heap.size, 2, none⟩ = some (.slice (some ⟨Bmb, 0, none⟩) y y) := cell_new _ _ _ rfl rfl
      have pl_f2 : (v53.alloc (.cells #[.slice (some ⟨Bma, 0, none⟩) x x, .slice pj wsj.length pqj, .slice (some ⟨Bmb, 0, none⟩) y y] 23)).frozen? ⟨v53.heap.size, 2, none⟩ = false := fro_new _ _ _ rfl
      have hb := below_alloc v53 (.cells #[.slice (some ⟨Bma, 0, none⟩) x x, .slice pj wsj.length pqj, .slice (some ⟨Bmb, 0, none⟩) y y] 23)
      have lt_pl := size_alloc' v53 (.cells #[.slice (some ⟨Bma, 0, none⟩) x x, .slice pj wsj.length pqj, .slice (some ⟨Bmb, 0, none⟩) y y] 23)
      generalize hwn : v53.alloc (.cells #[.slice (some ⟨Bma, 0, none⟩) x x, .slice pj wsj.length pqj, .slice (some ⟨Bmb, 0, none⟩) y y] 23) = v54 at *
      clear hwn
      have sz54 : v53.heap.size ≤ v54.heap.size := hb.size
      replace y0 := cell_keep hb y0
      replace y1 := cell_keep hb y1
      replace HZmb := Lib.hid (HZmb.out.below hb)
      replace HZma := Lib.hid (HZma.out.below hb)
      have HBh54 := Lib.hid (HBh53.out.trans (hb.mono (by have := HBh53.out.size; omega)))
      clear hb
      obtain ⟨Bpl, hBpl⟩ : ∃ Bpl : Nat, Bpl = v53.heap.size := ⟨_, rfl⟩
      rw [← hBpl] at pl_0 pl_f0 pl_1 pl_f1 pl_2 pl_f2 ⊢
      have hBlpl : Bpl ≤ v53.heap.size ∧ v53.heap.size ≤ Bpl := by omega
      clear hBpl
      refine hK.out _ _ ?_ (fun hHeld => ?_)
      · exact ⟨y0, y1⟩
      clear hK K
      try simp only [List.getElem_toArray, List.getElem_cons_succ, List.getElem_cons_zero, Act.put, List.setIfInBounds_toArray, List.set_cons_zero, List.set_cons_succ]
      refine wpAnyH_ready (rs := [7]) (by kernel_rfl) (by simp) ?_
      refine AllReadyH.cons rfl (fun K hK => ?_) AllReadyH.nil
      clear hHeld
      go_simp
      refine (concat3 Bpl Bma Bmb _ x y pj wsj pqj v54 (by omega) (by omega) (by omega) hw1' hw4 hx hy (HWj.out.below (HBh54.out)) HZma.out HZmb.out pl_0 pl_1 pl_2).mono ?_
      rw [HZS.out]
      rintro e v55 ⟨v, rfl, ho, hb⟩
      obtain ⟨p5, q5, rfl, _, _, _⟩ := ho.slice
      have sz55 : v54.heap.size ≤ v55.heap.size := hb.size
      replace pl_f0 := fro_keep hb pl_0 pl_f0
      replace pl_f1 := fro_keep hb pl_1 pl_f1
      replace pl_f2 := fro_keep hb pl_2 pl_f2
      replace y0 := cell_keep hb y0
      replace y1 := cell_keep hb y1
      replace pl_0 := cell_keep hb pl_0
      replace pl_1 := cell_keep hb pl_1
      replace pl_2 := cell_keep hb pl_2
      replace HZmb := Lib.hid (HZmb.out.below hb)
      replace HZma := Lib.hid (HZma.out.below hb)
      have HBh55 := Lib.hid (HBh54.out.trans (hb.mono (by have := HBh54.out.size; omega)))
      clear hb
      clear HZma HZmb
      have HOV0 := Lib.hid (ho.mono (show wr.heap.size ≤ v54.heap.size by omega) (Nat.le_refl _))
      clear ho
      refine hK.out _ _ ?_ (fun hHeld => ?_)
      · exact ⟨y0, y1⟩
      clear hK K
      try simp only [List.getElem_toArray, List.getElem_cons_succ, List.getElem_cons_zero, Act.put, List.setIfInBounds_toArray, List.set_cons_zero, List.set_cons_succ]
      refine wpAnyH_take (i := 8) (v := ?_) rfl (by kernel_rfl) (by kernel_rfl) (by kernel_rfl) (fun _ _ _ h => h) (Or.inl ⟨by rfl, ?_⟩) (by assumption) ?_
      rotate_left
      · intro w9 hSw; (try dsimp only at hSw); go_simp; try with_reducible rfl
      try simp only [List.getElem_toArray, List.getElem_cons_succ, List.getElem_cons_zero, Act.put, List.setIfInBounds_toArray, List.set_cons_zero, List.set_cons_succ]
      refine wpAnyH_done (by kernel_rfl) ?_ _
      refine NoPanic.normal ?_
      clear hHeld
      have HB3 := Lib.hid (below_alloc v55 (.cells #[.slice p5 zsj.length q5, .int .i64 bj] 56))
      have hs3 := HB3.out.size
      have HZ0 := Lib.hid (cell_two_new v55 (.slice p5 zsj.length q5) (.int .i64 bj) 56)
      have sv : wr.heap.size ≤ v55.heap.size := HBh55.out.size
      have HX3 := Lib.hid (HBh55.out.trans (HB3.out.mono sv))
      have hvb := fun g (e : u7.ownBlock = some g) => HO.out.1.lt g e
      have hro := ownsRow_block (w' := v55.alloc (.cells #[.slice p5 zsj.length q5, .int .i64 bj] 56)) HO.out.1 (fun g hg => HX3.out.block g (hvb g hg).2)
      rw [HTJ.out] at hro
      have HRO := Lib.hid hro
      have HOV := Lib.hid ((HOV0.out.below HB3.out).mono (Nat.le_refl _) hs3)
      have HVB := Lib.hid hvb
      clear hro hvb HOV0 pl_0 pl_1 pl_2 pl_f0 pl_f1 pl_f2 y0
      go_wp2_with (at_builtin; refine wpList_append_own _ rfl _ _ 110 rfl w.heap.size 56 j0 (.agg #[.slice none 0 0, .int .i64 0]) 2 32 Try.underlying110 hj hjz0 hjz1 hjz2 rfl (by decide) _ _ _ rfl HRO.out ⟨v55.heap.size, 0, none⟩ 1 1 [.slice p5 zsj.length q5, .int .i64 bj] rfl rfl HZ0.out (by simp [Value.oneCell']) (by unfold maxLen; omega) (by omega) (by simp; omega) ?_; intro v' w5 hown' hgrow _)
      have HPU := Lib.hid (OwnK.push (b := bj) HO.out HX3.out (by omega) HOV.out (by rw [HTJ.out]; exact hown') hgrow)
      have HB5 := Lib.hid (show Below w.heap.size w w5 from (HBl.out.trans (HX3.out.mono hsz)).grown hgrow (by omega) (fun g e => (HVB.out g e).1))
      clear hown' hgrow
      go_wp2_with fail
      go_roundw
      case rel => exact ⟨k + 1, _, by omega, by go_num, by rw [HTK.out]; exact HPU.out, HB5.out⟩
      case measure => simp [intOf]; omega
    · obtain rfl : k = ps.length := by omega
      have hoj := hown
      rw [List.take_of_length_le (Nat.le_of_eq (wid_len x y ps))] at hoj
      obtain ⟨pn, qn, hvn, _, _, _⟩ := (show OwnJ w.heap.size wr.heap.size wr u7 (widJ x y ps) from ⟨cs, hoj⟩).slice
      rw [wid_len] at hvn
      subst hvn
      have HF := Lib.hid hoj
      clear hown hbel hoj HO
      go_wp2_with fail
      go_ret
      exact ⟨pn, qn, cs, rfl, HF.out, HBl.out⟩
end Go.Proofs.Ytkbcofgigfnfaab.widg
