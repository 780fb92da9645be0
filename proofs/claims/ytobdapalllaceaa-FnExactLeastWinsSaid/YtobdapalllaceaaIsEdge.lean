/- The walks of the program's tests of least wins and greatest losses. -/
import Derived.Test.YtobdapalllaceaaEdge
import Derived.Test.YtobdapalllaceaaOutOf
import Derived.Test.YtobdapalllaceaaWhere
import Derived.Deep.QuietTactic
import Derived.Deep.RegionHeld3
import Derived.Deep.DrawnRows
import Derived.Deep.AppendLies
import Derived.Laws.Rows
namespace Go.Proofs.Ytobdapalllaceaa.isedge
open Go.RowKit own pp nums bitn mk psw outc edge pop
set_option linter.unusedVariables false
set_option linter.unusedSimpArgs false

theorem cell_keep {W W' : World} (h : Below W.heap.size W W') {b o : Nat} {x : Value} (hx : W.cell? ⟨b, o, none⟩ = some x) : W'.cell? ⟨b, o, none⟩ = some x :=
  cell_below h hx (block_lt_of_cell (a := ⟨b, o, none⟩) hx)
theorem fro_keep {W W' : World} (h : Below W.heap.size W W') {b o o' : Nat} {x : Value} (hx : W.cell? ⟨b, o', none⟩ = some x) (hf : W.frozen? ⟨b, o, none⟩ = false) : W'.frozen? ⟨b, o, none⟩ = false :=
  fro_below h hf (block_lt_of_cell (a := ⟨b, o', none⟩) hx)
theorem cell_grow {W W' : World} {row : Option Nat} (h : W.grownBy W' row) {b o : Nat} {x : Value} (hx : W.cell? ⟨b, o, none⟩ = some x) (hne : ∀ g, row = some g → b ≠ g) : W'.cell? ⟨b, o, none⟩ = some x :=
  (World.cell?_of_block (h.block b (block_lt_of_cell (a := ⟨b, o, none⟩) hx) (fun e => hne b e.symm rfl))).trans hx
theorem fro_grow {W W' : World} {row : Option Nat} (h : W.grownBy W' row) {b o o' : Nat} {x : Value} (hx : W.cell? ⟨b, o', none⟩ = some x) (hf : W.frozen? ⟨b, o, none⟩ = false) (hne : ∀ g, row = some g → b ≠ g) : W'.frozen? ⟨b, o, none⟩ = false :=
  (World.frozen?_of_block (a := ⟨b, o, none⟩) (h.block b (block_lt_of_cell (a := ⟨b, o', none⟩) hx) (fun e => hne b e.symm rfl))).trans hf
theorem own_grow {W W' : World} {row : Option Nat} (h : W.grownBy W' row) {lo hi : Nat} {v : Value} {zs : List Int} (ho : OwnI lo hi W v zs) (hne : ∀ g, row = some g → g < lo ∨ hi ≤ g) : OwnI lo hi W' v zs :=
  ho.block fun g hg => h.block g (ho.lt hg).2.2 (fun e => by have := hne g e.symm; have := ho.lt hg; omega)
theorem cell_set2 {W : World} {b o b' o' : Nat} {x : Value} (hx : W.cell? ⟨b, o, none⟩ = some x) (hne : b ≠ b') (u : Value) : (W.setCell ⟨b', o', none⟩ u).cell? ⟨b, o, none⟩ = some x :=
  (World.cell?_of_block (Below.heap_setCell _ _ _ _ (by show b ≠ b'; exact hne))).trans hx
theorem grown_set (W : World) (b o : Nat) (u : Value) : W.grownBy (W.setCell ⟨b, o, none⟩ u) (some b) :=
  ⟨rfl, rfl, rfl, by rw [size_set]; exact Nat.le_refl _, fun k hk hne => Below.heap_setCell _ _ _ _ (fun e => hne (by rw [e]))⟩
theorem grown_trans {W W1 W2 : World} {row : Option Nat} (h : W.grownBy W1 row) (k : W1.grownBy W2 row) : W.grownBy W2 row :=
  ⟨k.os.trans h.os, k.tape.trans h.tape, k.output.trans h.output, Nat.le_trans h.size k.size, fun i hi hn => (k.block i (Nat.lt_of_lt_of_le hi h.size) hn).trans (h.block i hi hn)⟩
theorem own_narrow {W : World} {lo gg cap : Nat} {l : List Int} {z : Int} (h : W.ownsRow lo 3 1 (.slice (some ⟨gg, 0, none⟩) (l.length + 1) cap) (l.length + 1) (l.map (Value.int .i64) ++ [.int .i64 z])) : OwnI gg (gg + 1) W (.slice (some ⟨gg, 0, none⟩) (l.length + 1) cap) (l ++ [z]) := by
  have h2 : W.ownsRow lo 3 1 (.slice (some ⟨gg, 0, none⟩) (l.length + 1) cap) (l ++ [z]).length ((l ++ [z]).map (Value.int .i64)) := by simpa [List.map_append] using h
  exact ⟨ownsRow_base h2 (fun g e => by obtain rfl : gg = g := (by simpa [Value.ownBlock] using e); exact Nat.le_refl _), fun g e => by obtain rfl : gg = g := (by simpa [Value.ownBlock] using e); omega⟩
theorem own_put {W : World} {lo hi gg n cap : Nat} {l : List Int} (h : OwnI lo hi W (.slice (some ⟨gg, 0, none⟩) n cap) l) (hn : n = l.length) (k : Nat) (z : Int) : OwnI lo hi (W.setCell ⟨gg, k, none⟩ (.int .i64 z)) (.slice (some ⟨gg, 0, none⟩) n cap) (l.set k z) := by
  subst hn
  have := (h.1.stored k (.int .i64 z)).1
  rw [← List.map_set] at this
  exact ⟨by rw [List.length_set]; exact this, h.2⟩
theorem own_cell {W : World} {lo hi gg n cap : Nat} {l : List Int} (h : OwnI lo hi W (.slice (some ⟨gg, 0, none⟩) n cap) l) (hn : n = l.length) (k : Nat) (hk : k < l.length) : W.cell? ⟨gg, k, none⟩ = some (.int .i64 (l.getD k 0)) := by
  subst hn
  rw [h.1.cellAt k (by omega), List.getElem?_map, List.getElem?_eq_getElem hk, List.getD_eq_getElem?_getD, List.getElem?_eq_getElem hk]; rfl
theorem own_fro {W : World} {lo hi gg n cap : Nat} {l : List Int} (h : OwnI lo hi W (.slice (some ⟨gg, 0, none⟩) n cap) l) (hn : n = l.length) (k : Nat) : W.frozen? ⟨gg, k, none⟩ = false := by
  subst hn
  exact h.1.frozenAt k
theorem count_and {α : Type} (l : List α) (a b : α → Bool) : l.countP (fun x => a x && b x) ≤ l.countP a ∧ (l.countP (fun x => a x && b x) = l.countP a ↔ ∀ x ∈ l, a x = true → b x = true) := by
  induction l with
  | nil => simp
  | cons x l ih =>
    obtain ⟨h1, h2⟩ := ih
    rw [List.countP_cons, List.countP_cons]
    cases ha : a x
    · simp only [Bool.false_and, Bool.false_eq_true, if_false, Nat.add_zero]
      refine ⟨h1, h2.trans ⟨fun h y hy => ?_, fun h y hy => h y (List.mem_cons_of_mem _ hy)⟩⟩
      rcases List.mem_cons.1 hy with rfl | hy
      · intro e; rw [ha] at e; cases e
      · exact h y hy
    · cases hb : b x
      · simp only [Bool.true_and, Bool.false_eq_true, if_false, Nat.add_zero, if_true]
        refine ⟨by omega, ⟨fun h => by omega, fun h => ?_⟩⟩
        have := h x (List.mem_cons_self ..) ha
        rw [hb] at this; cases this
      · simp only [Bool.true_and, if_true]
        refine ⟨by omega, ⟨fun h y hy => ?_, fun h => ?_⟩⟩
        · rcases List.mem_cons.1 hy with rfl | hy
          · intro _; exact hb
          · exact h2.1 (by omega) y hy
        · have := h2.2 (fun y hy => h y (List.mem_cons_of_mem _ hy)); omega
theorem pc_count : ∀ n : Fin 9, ∀ k : Fin 256, k.val < 2 ^ n.val → pc k.val = (List.range n.val).countP (fun i => dg k.val i == 1) ∧ pc (2 ^ n.val - 1 - k.val) = (List.range n.val).countP (fun i => dg k.val i == 0) := by decide +kernel
theorem places_count (f : Nat → Bool) (n : Nat) : (pwh.placesTo f n).length = (List.range n).countP f := by unfold pwh.placesTo; rw [List.length_map, List.countP_eq_length_filter]
def leastB (p : Nat → Bool) (n k : Nat) : Bool := p k && decide ((((pwh.placesTo (sw p k) n).length : Nat) : Int) = ((pc k : Nat) : Int))
def lossB (p : Nat → Bool) (n k : Nat) : Bool := !(p k) && decide ((((pwh.placesTo (fun i => p (onn k i)) n).length : Nat) : Int) = ((pc (2 ^ n - 1 - k) : Nat) : Int))
theorem least_edge {p : Nat → Bool} {n k : Nat} (h8 : n ≤ 8) (hk : k < 2 ^ n) : leastB p n k = edgeB p n true k := by
  have h2 := (bits8.pow8 h8).2
  unfold leastB edgeB
  cases hp : p k
  · rfl
  · have hc := (pc_count ⟨n, by omega⟩ ⟨k, by omega⟩ hk).1
    simp only at hc
    rw [places_count, hc, Bool.true_and, beq_self_eq_true, Bool.true_and, Bool.eq_iff_iff, decide_eq_true_iff, List.all_eq_true]
    have e : (List.range n).countP (sw p k) = (List.range n).countP (fun i => (dg k i == 1) && !(p (k ^^^ 2 ^ i))) := by
      refine List.countP_congr fun i hi => ?_
      have hi := List.mem_range.1 hi
      unfold sw
      rw [hp, Bool.true_and]
      have hd := dg_le k i
      by_cases e : dg k i = 1
      · rw [e, xor_off k i (by omega) (by omega) e]; simp
      · have e0 : dg k i = 0 := by omega
        have eo : off k i = k := by unfold off; rw [if_neg e]
        rw [e0, eo, hp]; simp
    rw [e]
    have := (count_and (List.range n) (fun i => dg k i == 1) (fun i => !(p (k ^^^ 2 ^ i)))).2
    constructor
    · intro h i hi
      have h3 := this.1 (by omega) i hi
      unfold stepB
      cases h4 : (dg k i == 1)
      · rfl
      · rw [show p (k ^^^ 2 ^ i) = false from by simpa using h3 h4]; rfl
    · intro h
      rw [this.2 (fun i hi h4 => by
        have h3 := h i hi
        unfold stepB at h3
        rw [h4] at h3
        simpa using h3)]
theorem loss_edge {p : Nat → Bool} {n k : Nat} (h8 : n ≤ 8) (hk : k < 2 ^ n) : lossB p n k = edgeB p n false k := by
  have h2 := (bits8.pow8 h8).2
  unfold lossB edgeB
  cases hp : p k
  · have hc := (pc_count ⟨n, by omega⟩ ⟨k, by omega⟩ hk).2
    simp only at hc
    rw [places_count, hc, Bool.not_false, Bool.true_and, beq_self_eq_true, Bool.true_and, Bool.eq_iff_iff, decide_eq_true_iff, List.all_eq_true]
    have e : (List.range n).countP (fun i => p (onn k i)) = (List.range n).countP (fun i => (dg k i == 0) && p (k ^^^ 2 ^ i)) := by
      refine List.countP_congr fun i hi => ?_
      have hi := List.mem_range.1 hi
      have hd := dg_le k i
      by_cases e : dg k i = 1
      · have eo : onn k i = k := by unfold onn; rw [if_pos e]
        rw [e, eo, hp]; simp
      · have e0 : dg k i = 0 := by omega
        rw [e0, xor_onn k i (by omega) (by omega) e0]; simp
    rw [e]
    have := (count_and (List.range n) (fun i => dg k i == 0) (fun i => p (k ^^^ 2 ^ i))).2
    have hz : ∀ i, (dg k i == 1) = !(dg k i == 0) := fun i => by
      have hd := dg_le k i
      have h3 : dg k i = 0 ∨ dg k i = 1 := by omega
      rcases h3 with e | e <;> rw [e] <;> rfl
    constructor
    · intro h i hi
      have h3 := this.1 (by omega) i hi
      unfold stepB
      rw [hz]
      cases h4 : (dg k i == 0)
      · rfl
      · rw [h3 h4]; rfl
    · intro h
      rw [this.2 (fun i hi h4 => by
        have h3 := h i hi
        unfold stepB at h3
        rw [hz, h4] at h3
        simpa using h3)]
  · rfl
set_option maxRecDepth 100000 in
set_option maxHeartbeats 4000000 in
theorem lw_closure (i B C n : Nat) (p : Nat → Bool) (k : Nat) (w : World) (h8 : n ≤ 8) (hb : Box w B n p) (hc : w.cell? ⟨C, 0, none⟩ = some (.int .i64 k)) (hk : k < 256) (hi : i < n) :
    Calls Try.prog 138 #[.int .i64 i, .pointer (some ⟨B, 0, none⟩), .pointer (some ⟨C, 0, none⟩)] w (fun e w' => e = .returned (.bool (sw p k i)) ∧ Below w.heap.size w w') := by
  have HS := Lib.hid (swing_any n p k i w hk (by omega) (sw p k i) (Lib.hid rfl))
  generalize sw p k i = r at *
  go_enter Try.func138, Try.ntmps138
  go_wp2_with (refine wp_load rfl _ rfl B n p rfl hb ?_)
  refine HS.out.mono ?_
  rintro e w1 ⟨rfl, hb1⟩
  go_wp2_with fail
  go_ret
  exact ⟨rfl, hb1⟩
set_option maxRecDepth 100000 in
set_option maxHeartbeats 4000000 in
theorem gl_closure (i B C n : Nat) (p : Nat → Bool) (k : Nat) (w : World) (h8 : n ≤ 8) (hb : Box w B n p) (hc : w.cell? ⟨C, 0, none⟩ = some (.int .i64 k)) (hk : k < 2 ^ n) (hi : i < n) :
    Calls Try.prog 141 #[.int .i64 i, .pointer (some ⟨B, 0, none⟩), .pointer (some ⟨C, 0, none⟩)] w (fun e w' => e = .returned (.bool (p (onn k i))) ∧ Below w.heap.size w w') := by
  have h2 := (bits8.pow8 h8).2
  have h3 := onn_lt h8 hk hi
  have hx := onn_at k i (by omega) (by omega)
  have ho := or_nat k (2 ^ i) (by omega) (by have := Nat.pow_le_pow_right (n := 2) (by omega) (show i ≤ 8 by omega); omega)
  rw [hx] at ho
  have c1 := hb.cellAt (onn k i) (by omega)
  obtain ⟨M, hM⟩ : ∃ M : Nat, 2 ^ i = M := ⟨_, rfl⟩
  have h2p : (2 : Int) ^ i = (M : Int) := by rw [← hM]; simp
  have hMb : M ≤ 256 := by rw [← hM]; have := Nat.pow_le_pow_right (n := 2) (by omega) (show i ≤ 8 by omega); omega
  have hXb : onn k i < 256 := by omega
  rw [hM] at ho
  clear hx hM h3
  generalize onn k i = X at *
  generalize p X = r at *
  have i1 : (0 : Int) ≤ (X : Int) := by omega
  have i2 : (X : Int) < 256 := by omega
  have i3 : (i : Int) < 64 := by omega
  have i4 : (0 : Int) ≤ (i : Int) := by omega
  go_enter Try.func141, Try.ntmps141
  go_wp2_with fail
  go_quiet (fail)
  go_wp2_with fail
  go_ret
  exact ⟨rfl, ints.below_drewN (Below.refl _ _) _⟩
set_option maxRecDepth 100000 in
set_option maxHeartbeats 4000000 in
theorem is_isLeastWin (n : Nat) (p : Nat → Bool) (k : Nat) (w : World) (h8 : n ≤ 8) (hk : k < 2 ^ n) :
    Calls Try.prog 74 #[.agg (oc n p), .int .i64 k] w (RetB (leastB p n k) w) := by
  have hp12 := bits8.pow8 h8
  have HRES := Lib.hid (show leastB p n k = (p k && decide ((((pwh.placesTo (sw p k) n).length : Nat) : Int) = ((pc k : Nat) : Int))) from rfl)
  have hlen := pwh.placesTo_length (sw p k) n
  go_enter Try.func74, Try.ntmps74
  obtain ⟨w0, hw0⟩ : ∃ w0 : World, w0 = w.alloc (.cells (oc n p) 77) := ⟨_, rfl⟩
  have hbx0 : Box w0 w.heap.size n p := by rw [hw0]; exact Box.new w n p
  have s0 : w0.heap.size = w.heap.size + 1 := by rw [hw0]; simp
  have HB0 := Lib.hid (show Below w.heap.size w w0 by rw [hw0]; exact below_alloc w _)
  obtain ⟨w1, hw1⟩ : ∃ w1 : World, w1 = w0.alloc (.cells #[.int .i64 k] 3) := ⟨_, rfl⟩
  have ck : w1.cell? ⟨w.heap.size + 1, 0, none⟩ = some (.int .i64 k) := by rw [hw1]; exact cell_new _ _ _ s0.symm rfl
  have hbx : Box w1 w.heap.size n p := by rw [hw1]; exact hbx0.below (below_alloc w0 _) (by omega)
  have s1 : w.heap.size + 2 ≤ w1.heap.size := by rw [hw1]; simp; omega
  have HB1 := Lib.hid (show Below w.heap.size w w1 by rw [hw1]; exact HB0.out.trans ((below_alloc w0 _).mono (by omega)))
  clear hbx0
  have HV := Lib.hid (voters2 138 (enters_of Try.func138 (by kernel_rfl) rfl) (.pointer (some ⟨w.heap.size, 0, none⟩)) (.pointer (some ⟨w.heap.size + 1, 0, none⟩)) n p (sw p k) w1 h8 (Lib.hid (fun i wr hi hb => lw_closure i w.heap.size (w.heap.size + 1) n p k wr h8 (hbx.below hb (by omega)) (cell_below hb ck (by omega)) (by omega) hi)))
  have hbxu : Box ((w.alloc (.cells (oc n p) 77)).alloc (.cells #[.int .i64 k] 3)) w.heap.size n p := by rw [← hw0, ← hw1]; exact hbx
  go_wp2_with (refine wp_load rfl _ rfl w.heap.size n p rfl hbxu ?_)
  rw [← hw0, ← hw1]
  clear hw0 hw1 HB0 hbxu
  refine HV.out.mono ?_
  rintro e w2 ⟨v, rfl, hos, hb⟩
  obtain ⟨sa, sc, rfl, _, _, _⟩ := hos.slice
  have hbx2 := hbx.below hb (by omega)
  have ck2 := cell_below hb ck (by omega)
  have HB2 := Lib.hid (HB1.out.trans (hb.mono (by omega)))
  have s2 := hb.size
  have cp := hbx2.cellAt k (by omega)
  have i1 : (0 : Int) ≤ (k : Int) := by omega
  have i2 : (k : Int) < 256 := by omega
  have e5 : IntKind.u64.wrap (k : Int) = (k : Int) := IntWalk.u64_in _ (by omega)
  clear hb hos HV hbx ck
  generalize pwh.placesTo (sw p k) n = sw0 at *
  have HON := Lib.hid (fun W => ones_any k W (by omega))
  generalize hpk : p k = pk at *
  cases pk
  · clear hbx2
    go_wp2_with fail
    go_ret
    exact ⟨by rw [HRES.out]; rfl, HB2.out⟩
  · clear hbx2
    generalize pc k = pk1 at *
    go_wp2_with fail
    refine (HON.out _).mono ?_
    rintro e w' ⟨rfl, rfl⟩
    go_wp2_with fail
    go_ret
    exact ⟨by rw [HRES.out, Bool.true_and]; exact congrArg (fun b => Ending.returned (.bool b)) (by rw [Bool.eq_iff_iff, beq_iff_eq, decide_eq_true_iff]), HB2.out⟩
set_option maxRecDepth 100000 in
set_option maxHeartbeats 4000000 in
theorem is_isGreatestLoss (n : Nat) (p : Nat → Bool) (k : Nat) (w : World) (h8 : n ≤ 8) (hk : k < 2 ^ n) :
    Calls Try.prog 75 #[.agg (oc n p), .int .i64 k] w (RetB (lossB p n k) w) := by
  have hp12 := bits8.pow8 h8
  have HRES := Lib.hid (show lossB p n k = (!(p k) && decide ((((pwh.placesTo (fun i => p (onn k i)) n).length : Nat) : Int) = ((pc (2 ^ n - 1 - k) : Nat) : Int))) from rfl)
  have hlen := pwh.placesTo_length (fun i => p (onn k i)) n
  go_enter Try.func75, Try.ntmps75
  obtain ⟨w0, hw0⟩ : ∃ w0 : World, w0 = w.alloc (.cells (oc n p) 77) := ⟨_, rfl⟩
  have hbx0 : Box w0 w.heap.size n p := by rw [hw0]; exact Box.new w n p
  have s0 : w0.heap.size = w.heap.size + 1 := by rw [hw0]; simp
  have HB0 := Lib.hid (show Below w.heap.size w w0 by rw [hw0]; exact below_alloc w _)
  obtain ⟨w1, hw1⟩ : ∃ w1 : World, w1 = w0.alloc (.cells #[.int .i64 k] 3) := ⟨_, rfl⟩
  have ck : w1.cell? ⟨w.heap.size + 1, 0, none⟩ = some (.int .i64 k) := by rw [hw1]; exact cell_new _ _ _ s0.symm rfl
  have hbx : Box w1 w.heap.size n p := by rw [hw1]; exact hbx0.below (below_alloc w0 _) (by omega)
  have s1 : w.heap.size + 2 ≤ w1.heap.size := by rw [hw1]; simp; omega
  have HB1 := Lib.hid (show Below w.heap.size w w1 by rw [hw1]; exact HB0.out.trans ((below_alloc w0 _).mono (by omega)))
  clear hbx0
  have HV := Lib.hid (voters2 141 (enters_of Try.func141 (by kernel_rfl) rfl) (.pointer (some ⟨w.heap.size, 0, none⟩)) (.pointer (some ⟨w.heap.size + 1, 0, none⟩)) n p (fun i => p (onn k i)) w1 h8 (Lib.hid (fun i wr hi hb => gl_closure i w.heap.size (w.heap.size + 1) n p k wr h8 (hbx.below hb (by omega)) (cell_below hb ck (by omega)) hk hi)))
  have hbxu : Box ((w.alloc (.cells (oc n p) 77)).alloc (.cells #[.int .i64 k] 3)) w.heap.size n p := by rw [← hw0, ← hw1]; exact hbx
  go_wp2_with (refine wp_load rfl _ rfl w.heap.size n p rfl hbxu ?_)
  rw [← hw0, ← hw1]
  clear hw0 hw1 HB0 hbxu
  refine HV.out.mono ?_
  rintro e w2 ⟨v, rfl, hos, hb⟩
  obtain ⟨sa, sc, rfl, _, _, _⟩ := hos.slice
  have hbx2 := hbx.below hb (by omega)
  have ck2 := cell_below hb ck (by omega)
  have HB2 := Lib.hid (HB1.out.trans (hb.mono (by omega)))
  have s2 := hb.size
  have cp := hbx2.cellAt k (by omega)
  have i1 : (0 : Int) ≤ (k : Int) := by omega
  have i2 : (k : Int) < 256 := by omega
  have e5 : IntKind.u64.wrap (k : Int) = (k : Int) := IntWalk.u64_in _ (by omega)
  clear hb hos HV hbx ck
  generalize pwh.placesTo (fun i => p (onn k i)) n = sw0 at *
  have HON := Lib.hid (fun W => ones_any (2 ^ n - 1 - k) W (by omega))
  have HAL := Lib.hid (fun W => all_any n p W h8)
  have HBX := Lib.hid (show ∀ W, Below w2.heap.size w2 W → Box W w.heap.size n p from fun W hb => hbx2.below hb (by omega))
  have e6 : (((2 ^ n : Nat) : Int) - 1 - (k : Int)) = ((2 ^ n - 1 - k : Nat) : Int) := by omega
  have HWR := Lib.hid (show IntKind.u64.wrap (IntKind.i64.wrap (((2 ^ n : Nat) : Int) - 1 - (k : Int))) = ((2 ^ n - 1 - k : Nat) : Int) by rw [e6, IntWalk.i64_in _ (by omega)]; exact IntWalk.u64_in _ (by omega))
  clear e6
  generalize pc (2 ^ n - 1 - k) = pk1 at *
  generalize 2 ^ n - 1 - k = M at *
  generalize 2 ^ n = N at *
  have HB2z := Lib.hid (Below.refl w2.heap.size w2)
  generalize hpk : p k = pk at *
  cases pk
  · clear hbx2
    go_wp2_with fail
    refine wp_region_noPanic ?_
    refine wp_region_held_drew (S := fun w' => w'.cell? ⟨w.heap.size + 1, 0, none⟩ = some (.int .i64 k) ∧ w'.cell? ⟨w.heap.size, 1 + k, none⟩ = some (.bool false)) (by kernel_rfl) ?_ (fun hHeld => ?_)
    · exact ⟨ck2, cp⟩
    have hb : Below w2.heap.size w2 w2.drew := (Below.refl _ _).drew
    generalize hwn : w2.drew = v11 at *
    clear hwn
    have sz11 : w2.heap.size ≤ v11.heap.size := hb.size
    replace ck2 := cell_keep hb ck2
    replace cp := cell_keep hb cp
    have HBh11 := Lib.hid (HB2z.out.trans (hb.mono (by have := HB2z.out.size; omega)))
    clear hb
    refine wpAnyH_take (i := 0) (v := ?_) rfl (by kernel_rfl) (by kernel_rfl) (by kernel_rfl) (fun _ _ _ h => h) (Or.inl ⟨by rfl, ?_⟩) (by assumption) ?_
    rotate_left
    · intro w9 hSw; (try dsimp only at hSw); go_simp; try with_reducible rfl
    try simp only [List.getElem_toArray, List.getElem_cons_succ, List.getElem_cons_zero, Act.put, List.setIfInBounds_toArray, List.set_cons_zero, List.set_cons_succ]
    refine wpAnyH_take (i := 1) (v := ?_) rfl (by kernel_rfl) (by kernel_rfl) (by kernel_rfl) (fun _ _ _ h => h) (Or.inl ⟨by rfl, ?_⟩) (by assumption) ?_
    rotate_left
    · intro w9 hSw; (try dsimp only at hSw); go_simp; try with_reducible rfl
    try simp only [List.getElem_toArray, List.getElem_cons_succ, List.getElem_cons_zero, Act.put, List.setIfInBounds_toArray, List.set_cons_zero, List.set_cons_succ]
    refine wpAnyH_take (i := 2) (v := ?_) rfl (by kernel_rfl) (by kernel_rfl) (by kernel_rfl) (fun _ _ _ h => h) (Or.inl ⟨by rfl, ?_⟩) (by assumption) ?_
    rotate_left
    · intro w9 hSw; (try dsimp only at hSw); go_simp; try with_reducible rfl
    try simp only [List.getElem_toArray, List.getElem_cons_succ, List.getElem_cons_zero, Act.put, List.setIfInBounds_toArray, List.set_cons_zero, List.set_cons_succ]
    refine wpAnyH_take (i := 3) (v := ?_) rfl (by kernel_rfl) (by kernel_rfl) (by kernel_rfl) (fun _ _ _ h => h) (Or.inl ⟨by rfl, ?_⟩) (by assumption) ?_
    rotate_left
    · intro w9 hSw; (try dsimp only at hSw); go_simp; try with_reducible rfl
    try simp only [List.getElem_toArray, List.getElem_cons_succ, List.getElem_cons_zero, Act.put, List.setIfInBounds_toArray, List.set_cons_zero, List.set_cons_succ]
    refine wpAnyH_take (i := 4) (v := ?_) rfl (by kernel_rfl) (by kernel_rfl) (by kernel_rfl) (fun _ _ _ h => h) (Or.inl ⟨by rfl, ?_⟩) (by assumption) ?_
    rotate_left
    · intro w9 hSw; (try dsimp only at hSw); go_simp; try with_reducible rfl
    try simp only [List.getElem_toArray, List.getElem_cons_succ, List.getElem_cons_zero, Act.put, List.setIfInBounds_toArray, List.set_cons_zero, List.set_cons_succ]
    refine wpAnyH_take (i := 5) (v := ?_) rfl (by kernel_rfl) (by kernel_rfl) (by kernel_rfl) (fun _ _ _ h => h) (Or.inl ⟨by rfl, ?_⟩) (by assumption) ?_
    rotate_left
    · intro w9 hSw; (try dsimp only at hSw); go_simp; try with_reducible rfl
    try simp only [List.getElem_toArray, List.getElem_cons_succ, List.getElem_cons_zero, Act.put, List.setIfInBounds_toArray, List.set_cons_zero, List.set_cons_succ]
    refine wpAnyH_take (i := 6) (v := ?_) rfl (by kernel_rfl) (by kernel_rfl) (by kernel_rfl) (fun _ _ _ h => h) (Or.inl ⟨by rfl, ?_⟩) (by assumption) ?_
    rotate_left
    · intro w9 hSw; (try dsimp only at hSw); go_simp; try with_reducible rfl
    try simp only [List.getElem_toArray, List.getElem_cons_succ, List.getElem_cons_zero, Act.put, List.setIfInBounds_toArray, List.set_cons_zero, List.set_cons_succ]
    refine wpAnyH_take (i := 7) (v := ?_) rfl (by kernel_rfl) (by kernel_rfl) (by kernel_rfl) (fun _ _ _ h => h) (Or.inl ⟨by rfl, ?_⟩) (by assumption) ?_
    rotate_left
    · intro w9 hSw; (try dsimp only at hSw); go_simp; try with_reducible rfl
    try simp only [List.getElem_toArray, List.getElem_cons_succ, List.getElem_cons_zero, Act.put, List.setIfInBounds_toArray, List.set_cons_zero, List.set_cons_succ]
    refine wpAnyH_take (i := 10) (v := ?_) rfl (by kernel_rfl) (by kernel_rfl) (by kernel_rfl) (fun _ _ _ h => h) (Or.inl ⟨by rfl, ?_⟩) (by assumption) ?_
    rotate_left
    · intro w9 hSw; (try dsimp only at hSw); go_simp; try with_reducible rfl
    try simp only [List.getElem_toArray, List.getElem_cons_succ, List.getElem_cons_zero, Act.put, List.setIfInBounds_toArray, List.set_cons_zero, List.set_cons_succ]
    refine wpAnyH_ready (rs := [8]) (by kernel_rfl) (by simp) ?_
    refine AllReadyH.cons rfl (fun K hK => ?_) AllReadyH.nil
    clear hHeld
    rw [if_pos (by rfl)]
    refine wpo_load _ rfl w.heap.size n p rfl (HBX.out _ HBh11.out) ?_
    refine hK.out _ _ ?_ (fun hHeld => ?_)
    · exact ⟨ck2, cp⟩
    clear hK K
    try simp only [List.getElem_toArray, List.getElem_cons_succ, List.getElem_cons_zero, Act.put, List.setIfInBounds_toArray, List.set_cons_zero, List.set_cons_succ]
    refine wpAnyH_ready (rs := [9]) (by kernel_rfl) (by simp) ?_
    refine AllReadyH.cons rfl (fun K hK => ?_) AllReadyH.nil
    clear hHeld
    go_simp
    refine (HAL.out v11).mono ?_
    rintro e v12 ⟨rfl, hb⟩
    have sz12 : v11.heap.size ≤ v12.heap.size := hb.size
    replace ck2 := cell_keep hb ck2
    replace cp := cell_keep hb cp
    have HBh12 := Lib.hid (HBh11.out.trans (hb.mono (by have := HBh11.out.size; omega)))
    clear hb
    refine hK.out _ _ ?_ (fun hHeld => ?_)
    · exact ⟨ck2, cp⟩
    clear hK K
    try simp only [List.getElem_toArray, List.getElem_cons_succ, List.getElem_cons_zero, Act.put, List.setIfInBounds_toArray, List.set_cons_zero, List.set_cons_succ]
    refine wpAnyH_take (i := 11) (v := ?_) rfl (by kernel_rfl) (by kernel_rfl) (by kernel_rfl) (fun _ _ _ h => h) (Or.inl ⟨by rfl, ?_⟩) (by assumption) ?_
    rotate_left
    · intro w9 hSw; (try dsimp only at hSw); go_simp; try with_reducible rfl
    try simp only [List.getElem_toArray, List.getElem_cons_succ, List.getElem_cons_zero, Act.put, List.setIfInBounds_toArray, List.set_cons_zero, List.set_cons_succ]
    refine wpAnyH_take (i := 12) (v := ?_) rfl (by kernel_rfl) (by kernel_rfl) (by kernel_rfl) (fun _ _ _ h => h) (Or.inl ⟨by rfl, ?_⟩) (by assumption) ?_
    rotate_left
    · intro w9 hSw; (try dsimp only at hSw); go_simp; try with_reducible rfl
    try simp only [List.getElem_toArray, List.getElem_cons_succ, List.getElem_cons_zero, Act.put, List.setIfInBounds_toArray, List.set_cons_zero, List.set_cons_succ]
    refine wpAnyH_ready (rs := [13]) (by kernel_rfl) (by simp) ?_
    refine AllReadyH.cons rfl (fun K hK => ?_) AllReadyH.nil
    clear hHeld
    go_simp
    rw [HWR.out]
    refine (HON.out _).mono ?_
    rintro e w' ⟨rfl, rfl⟩
    refine hK.out _ _ ?_ (fun hHeld => ?_)
    · exact ⟨ck2, cp⟩
    clear hK K
    try simp only [List.getElem_toArray, List.getElem_cons_succ, List.getElem_cons_zero, Act.put, List.setIfInBounds_toArray, List.set_cons_zero, List.set_cons_succ]
    refine wpAnyH_take (i := 14) (v := ?_) rfl (by kernel_rfl) (by kernel_rfl) (by kernel_rfl) (fun _ _ _ h => h) (Or.inl ⟨by rfl, ?_⟩) (by assumption) ?_
    rotate_left
    · intro w9 hSw; (try dsimp only at hSw); go_simp; try with_reducible rfl
    try simp only [List.getElem_toArray, List.getElem_cons_succ, List.getElem_cons_zero, Act.put, List.setIfInBounds_toArray, List.set_cons_zero, List.set_cons_succ]
    refine wpAnyH_take (i := 15) (v := ?_) rfl (by kernel_rfl) (by kernel_rfl) (by kernel_rfl) (fun _ _ _ h => h) (Or.inl ⟨by rfl, ?_⟩) (by assumption) ?_
    rotate_left
    · intro w9 hSw; (try dsimp only at hSw); go_simp; try with_reducible rfl
    try simp only [List.getElem_toArray, List.getElem_cons_succ, List.getElem_cons_zero, Act.put, List.setIfInBounds_toArray, List.set_cons_zero, List.set_cons_succ]
    refine wpAnyH_take (i := 16) (v := ?_) rfl (by kernel_rfl) (by kernel_rfl) (by kernel_rfl) (fun _ _ _ h => h) (Or.inl ⟨by rfl, ?_⟩) (by assumption) ?_
    rotate_left
    · intro w9 hSw; (try dsimp only at hSw); go_simp; try with_reducible rfl
    try simp only [List.getElem_toArray, List.getElem_cons_succ, List.getElem_cons_zero, Act.put, List.setIfInBounds_toArray, List.set_cons_zero, List.set_cons_succ]
    refine wpAnyH_done (by kernel_rfl) ?_ _
    refine NoPanic.normal ?_
    clear hHeld
    go_wp2_with fail
    go_ret
    exact ⟨by rw [HRES.out, Bool.not_false, Bool.true_and]; exact congrArg (fun b => Ending.returned (.bool b)) (by rw [Bool.eq_iff_iff, beq_iff_eq, decide_eq_true_iff]), HB2.out.trans (HBh12.out.mono (by omega))⟩
  · clear hbx2
    go_wp2_with fail
    refine wp_region_noPanic ?_
    refine wp_region_held_drew (S := fun w' => w'.cell? ⟨w.heap.size + 1, 0, none⟩ = some (.int .i64 k) ∧ w'.cell? ⟨w.heap.size, 1 + k, none⟩ = some (.bool true)) (by kernel_rfl) ?_ (fun hHeld => ?_)
    · exact ⟨ck2, cp⟩
    have hb : Below w2.heap.size w2 w2.drew := (Below.refl _ _).drew
    generalize hwn : w2.drew = v11 at *
    clear hwn
    have sz11 : w2.heap.size ≤ v11.heap.size := hb.size
    replace ck2 := cell_keep hb ck2
    replace cp := cell_keep hb cp
    have HBh11 := Lib.hid (HB2z.out.trans (hb.mono (by have := HB2z.out.size; omega)))
    clear hb
    refine wpAnyH_take (i := 0) (v := ?_) rfl (by kernel_rfl) (by kernel_rfl) (by kernel_rfl) (fun _ _ _ h => h) (Or.inl ⟨by rfl, ?_⟩) (by assumption) ?_
    rotate_left
    · intro w9 hSw; (try dsimp only at hSw); go_simp; try with_reducible rfl
    try simp only [List.getElem_toArray, List.getElem_cons_succ, List.getElem_cons_zero, Act.put, List.setIfInBounds_toArray, List.set_cons_zero, List.set_cons_succ]
    refine wpAnyH_take (i := 1) (v := ?_) rfl (by kernel_rfl) (by kernel_rfl) (by kernel_rfl) (fun _ _ _ h => h) (Or.inl ⟨by rfl, ?_⟩) (by assumption) ?_
    rotate_left
    · intro w9 hSw; (try dsimp only at hSw); go_simp; try with_reducible rfl
    try simp only [List.getElem_toArray, List.getElem_cons_succ, List.getElem_cons_zero, Act.put, List.setIfInBounds_toArray, List.set_cons_zero, List.set_cons_succ]
    refine wpAnyH_take (i := 2) (v := ?_) rfl (by kernel_rfl) (by kernel_rfl) (by kernel_rfl) (fun _ _ _ h => h) (Or.inl ⟨by rfl, ?_⟩) (by assumption) ?_
    rotate_left
    · intro w9 hSw; (try dsimp only at hSw); go_simp; try with_reducible rfl
    try simp only [List.getElem_toArray, List.getElem_cons_succ, List.getElem_cons_zero, Act.put, List.setIfInBounds_toArray, List.set_cons_zero, List.set_cons_succ]
    refine wpAnyH_take (i := 3) (v := ?_) rfl (by kernel_rfl) (by kernel_rfl) (by kernel_rfl) (fun _ _ _ h => h) (Or.inl ⟨by rfl, ?_⟩) (by assumption) ?_
    rotate_left
    · intro w9 hSw; (try dsimp only at hSw); go_simp; try with_reducible rfl
    try simp only [List.getElem_toArray, List.getElem_cons_succ, List.getElem_cons_zero, Act.put, List.setIfInBounds_toArray, List.set_cons_zero, List.set_cons_succ]
    refine wpAnyH_take (i := 4) (v := ?_) rfl (by kernel_rfl) (by kernel_rfl) (by kernel_rfl) (fun _ _ _ h => h) (Or.inl ⟨by rfl, ?_⟩) (by assumption) ?_
    rotate_left
    · intro w9 hSw; (try dsimp only at hSw); go_simp; try with_reducible rfl
    try simp only [List.getElem_toArray, List.getElem_cons_succ, List.getElem_cons_zero, Act.put, List.setIfInBounds_toArray, List.set_cons_zero, List.set_cons_succ]
    refine wpAnyH_take (i := 5) (v := ?_) rfl (by kernel_rfl) (by kernel_rfl) (by kernel_rfl) (fun _ _ _ h => h) (Or.inl ⟨by rfl, ?_⟩) (by assumption) ?_
    rotate_left
    · intro w9 hSw; (try dsimp only at hSw); go_simp; try with_reducible rfl
    try simp only [List.getElem_toArray, List.getElem_cons_succ, List.getElem_cons_zero, Act.put, List.setIfInBounds_toArray, List.set_cons_zero, List.set_cons_succ]
    refine wpAnyH_take (i := 6) (v := undef) rfl (by kernel_rfl) (by kernel_rfl) (by kernel_rfl) (fun _ _ _ h => h) (Or.inr ⟨by rfl, rfl⟩) (by assumption) ?_
    try simp only [List.getElem_toArray, List.getElem_cons_succ, List.getElem_cons_zero, Act.put, List.setIfInBounds_toArray, List.set_cons_zero, List.set_cons_succ]
    refine wpAnyH_take (i := 7) (v := undef) rfl (by kernel_rfl) (by kernel_rfl) (by kernel_rfl) (fun _ _ _ h => h) (Or.inr ⟨by rfl, rfl⟩) (by assumption) ?_
    try simp only [List.getElem_toArray, List.getElem_cons_succ, List.getElem_cons_zero, Act.put, List.setIfInBounds_toArray, List.set_cons_zero, List.set_cons_succ]
    refine wpAnyH_take (i := 8) (v := undef) rfl (by kernel_rfl) (by kernel_rfl) (by kernel_rfl) (fun _ _ _ h => h) (Or.inr ⟨by rfl, rfl⟩) (by assumption) ?_
    try simp only [List.getElem_toArray, List.getElem_cons_succ, List.getElem_cons_zero, Act.put, List.setIfInBounds_toArray, List.set_cons_zero, List.set_cons_succ]
    refine wpAnyH_take (i := 9) (v := undef) rfl (by kernel_rfl) (by kernel_rfl) (by kernel_rfl) (fun _ _ _ h => h) (Or.inr ⟨by rfl, rfl⟩) (by assumption) ?_
    try simp only [List.getElem_toArray, List.getElem_cons_succ, List.getElem_cons_zero, Act.put, List.setIfInBounds_toArray, List.set_cons_zero, List.set_cons_succ]
    refine wpAnyH_take (i := 10) (v := undef) rfl (by kernel_rfl) (by kernel_rfl) (by kernel_rfl) (fun _ _ _ h => h) (Or.inr ⟨by rfl, rfl⟩) (by assumption) ?_
    try simp only [List.getElem_toArray, List.getElem_cons_succ, List.getElem_cons_zero, Act.put, List.setIfInBounds_toArray, List.set_cons_zero, List.set_cons_succ]
    refine wpAnyH_take (i := 11) (v := undef) rfl (by kernel_rfl) (by kernel_rfl) (by kernel_rfl) (fun _ _ _ h => h) (Or.inr ⟨by rfl, rfl⟩) (by assumption) ?_
    try simp only [List.getElem_toArray, List.getElem_cons_succ, List.getElem_cons_zero, Act.put, List.setIfInBounds_toArray, List.set_cons_zero, List.set_cons_succ]
    refine wpAnyH_take (i := 12) (v := undef) rfl (by kernel_rfl) (by kernel_rfl) (by kernel_rfl) (fun _ _ _ h => h) (Or.inr ⟨by rfl, rfl⟩) (by assumption) ?_
    try simp only [List.getElem_toArray, List.getElem_cons_succ, List.getElem_cons_zero, Act.put, List.setIfInBounds_toArray, List.set_cons_zero, List.set_cons_succ]
    refine wpAnyH_take (i := 13) (v := undef) rfl (by kernel_rfl) (by kernel_rfl) (by kernel_rfl) (fun _ _ _ h => h) (Or.inr ⟨by rfl, rfl⟩) (by assumption) ?_
    try simp only [List.getElem_toArray, List.getElem_cons_succ, List.getElem_cons_zero, Act.put, List.setIfInBounds_toArray, List.set_cons_zero, List.set_cons_succ]
    refine wpAnyH_take (i := 14) (v := undef) rfl (by kernel_rfl) (by kernel_rfl) (by kernel_rfl) (fun _ _ _ h => h) (Or.inr ⟨by rfl, rfl⟩) (by assumption) ?_
    try simp only [List.getElem_toArray, List.getElem_cons_succ, List.getElem_cons_zero, Act.put, List.setIfInBounds_toArray, List.set_cons_zero, List.set_cons_succ]
    refine wpAnyH_take (i := 15) (v := ?_) rfl (by kernel_rfl) (by kernel_rfl) (by kernel_rfl) (fun _ _ _ h => h) (Or.inl ⟨by rfl, ?_⟩) (by assumption) ?_
    rotate_left
    · intro w9 hSw; (try dsimp only at hSw); go_simp; try with_reducible rfl
    try simp only [List.getElem_toArray, List.getElem_cons_succ, List.getElem_cons_zero, Act.put, List.setIfInBounds_toArray, List.set_cons_zero, List.set_cons_succ]
    refine wpAnyH_take (i := 16) (v := ?_) rfl (by kernel_rfl) (by kernel_rfl) (by kernel_rfl) (fun _ _ _ h => h) (Or.inl ⟨by rfl, ?_⟩) (by assumption) ?_
    rotate_left
    · intro w9 hSw; (try dsimp only at hSw); go_simp; try with_reducible rfl
    try simp only [List.getElem_toArray, List.getElem_cons_succ, List.getElem_cons_zero, Act.put, List.setIfInBounds_toArray, List.set_cons_zero, List.set_cons_succ]
    refine wpAnyH_done (by kernel_rfl) ?_ _
    refine NoPanic.normal ?_
    clear hHeld
    go_wp2_with fail
    go_ret
    exact ⟨by rw [HRES.out]; rfl, HB2.out.trans (HBh11.out.mono (by omega))⟩
end Go.Proofs.Ytobdapalllaceaa.isedge
