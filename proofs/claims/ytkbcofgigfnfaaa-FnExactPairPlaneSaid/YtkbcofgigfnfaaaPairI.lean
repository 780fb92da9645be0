/- The program's plane of two points. -/
import Derived.Test.YtkbcofgigfnfaaaPairP
import Derived.Test.YtkbcofgigfnfaaaKept
import Derived.Test.YtkbcofgigfnfaaaSetCell
import Derived.Deep.RegionHeld3
import Derived.Deep.DrawnRows
import Derived.Deep.AppendLies
namespace Go.Proofs.Ytkbcofgigfnfaaa.pairi
open Go.RowKit own pp nums squares dots mk kern pairp kept
set_option linter.unusedVariables false
set_option linter.unusedSimpArgs false

theorem cell_keep {W W' : World} (h : Below W.heap.size W W') {b o : Nat} {x : Value} (hx : W.cell? ⟨b, o, none⟩ = some x) : W'.cell? ⟨b, o, none⟩ = some x :=
  cell_below h hx (block_lt_of_cell (a := ⟨b, o, none⟩) hx)
theorem fro_keep {W W' : World} (h : Below W.heap.size W W') {b o o' : Nat} {x : Value} (hx : W.cell? ⟨b, o', none⟩ = some x) (hf : W.frozen? ⟨b, o, none⟩ = false) : W'.frozen? ⟨b, o, none⟩ = false :=
  fro_below h hf (block_lt_of_cell (a := ⟨b, o', none⟩) hx)
theorem cell_grow {W W' : World} {row : Option Nat} (h : W.grownBy W' row) {b o : Nat} {x : Value} (hx : W.cell? ⟨b, o, none⟩ = some x) (hne : ∀ g, row = some g → b ≠ g) : W'.cell? ⟨b, o, none⟩ = some x :=
  (World.cell?_of_block (h.block b (block_lt_of_cell (a := ⟨b, o, none⟩) hx) (fun e => hne b e.symm rfl))).trans hx
theorem fro_grow {W W' : World} {row : Option Nat} (h : W.grownBy W' row) {b o o' : Nat} {x : Value} (hx : W.cell? ⟨b, o', none⟩ = some x) (hf : W.frozen? ⟨b, o, none⟩ = false) (hne : ∀ g, row = some g → b ≠ g) : W'.frozen? ⟨b, o, none⟩ = false :=
  (World.frozen?_of_block (a := ⟨b, o, none⟩) (h.block b (block_lt_of_cell (a := ⟨b, o', none⟩) hx) (fun e => hne b e.symm rfl))).trans hf
theorem own_grow {W W' : World} {row : Option Nat} (h : W.grownBy W' row) {lo hi : Nat} {v : Value} {zs : List Int} (ho : OwnI lo hi W v zs) (hne : ∀ g, row = some g → g < lo ∨ hi ≤ g) : OwnI lo hi W' v zs :=
  ho.block fun g hg => h.block g (ho.lt hg).2.2 (fun e => by have := hne g e.symm; have := ho.lt hg; omega)
theorem cell_set2 {W : World} {b o b' o' : Nat} {x : Value} (hx : W.cell? ⟨b, o, none⟩ = some x) (hne : b ≠ b') (u : Value) : (W.setCell ⟨b', o', none⟩ u).cell? ⟨b, o, none⟩ = some x :=
  (World.cell?_of_block (Below.heap_setCell _ _ _ _ (by show b ≠ b'; exact hne))).trans hx
theorem grown_set (W : World) (b o : Nat) (u : Value) : W.grownBy (W.setCell ⟨b, o, none⟩ u) (some b) :=
  ⟨rfl, rfl, rfl, by rw [size_set]; exact Nat.le_refl _, fun k hk hne => Below.heap_setCell _ _ _ _ (fun e => hne (by rw [e]))⟩
theorem grown_trans {W W1 W2 : World} {row : Option Nat} (h : W.grownBy W1 row) (k : W1.grownBy W2 row) : W.grownBy W2 row :=
  ⟨k.os.trans h.os, k.tape.trans h.tape, k.output.trans h.output, Nat.le_trans h.size k.size, fun i hi hn => (k.block i (Nat.lt_of_lt_of_le hi h.size) hn).trans (h.block i hi hn)⟩
theorem own_narrow {W : World} {lo gg cap : Nat} {l : List Int} {z : Int} (h : W.ownsRow lo 3 1 (.slice (some ⟨gg, 0, none⟩) (l.length + 1) cap) (l.length + 1) (l.map (Value.int .i64) ++ [.int .i64 z])) : OwnI gg (gg + 1) W (.slice (some ⟨gg, 0, none⟩) (l.length + 1) cap) (l ++ [z]) := by
  have h2 : W.ownsRow lo 3 1 (.slice (some ⟨gg, 0, none⟩) (l.length + 1) cap) (l ++ [z]).length ((l ++ [z]).map (Value.int .i64)) := by simpa [List.map_append] using h
  exact ⟨ownsRow_base h2 (fun g e => by obtain rfl : gg = g := (by simpa [Value.ownBlock] using e); exact Nat.le_refl _), fun g e => by obtain rfl : gg = g := (by simpa [Value.ownBlock] using e); omega⟩
theorem own_put {W : World} {lo hi gg n cap : Nat} {l : List Int} (h : OwnI lo hi W (.slice (some ⟨gg, 0, none⟩) n cap) l) (hn : n = l.length) (k : Nat) (z : Int) : OwnI lo hi (W.setCell ⟨gg, k, none⟩ (.int .i64 z)) (.slice (some ⟨gg, 0, none⟩) n cap) (l.set k z) := by
  subst hn
  have := (h.1.stored k (.int .i64 z)).1
  rw [← List.map_set] at this
  exact ⟨by rw [List.length_set]; exact this, h.2⟩
theorem own_cell {W : World} {lo hi gg n cap : Nat} {l : List Int} (h : OwnI lo hi W (.slice (some ⟨gg, 0, none⟩) n cap) l) (hn : n = l.length) (k : Nat) (hk : k < l.length) : W.cell? ⟨gg, k, none⟩ = some (.int .i64 (l.getD k 0)) := by
  subst hn
  rw [h.1.cellAt k (by omega), List.getElem?_map, List.getElem?_eq_getElem hk, List.getD_eq_getElem?_getD, List.getElem?_eq_getElem hk]; rfl
theorem own_fro {W : World} {lo hi gg n cap : Nat} {l : List Int} (h : OwnI lo hi W (.slice (some ⟨gg, 0, none⟩) n cap) l) (hn : n = l.length) (k : Nat) : W.frozen? ⟨gg, k, none⟩ = false := by
  subst hn
  exact h.1.frozenAt k
set_option maxRecDepth 100000 in
set_option maxHeartbeats 1600000 in
theorem impl_pp_no (a : Option Addr) (xs : List Int) (c : Nat) (a' : Option Addr) (ys : List Int) (c' : Nat) (w : World) (hr : ints.Reads .i64 w a xs) (hq : ints.Reads .i64 w a' ys) (hn : xs.length ≤ 1048576) (hm : ys.length ≤ 1048576) (h : pairB xs ys = false ∨ xs = ys) :
    Calls Try.prog 32 #[.slice a xs.length c, .slice a' ys.length c'] w (RetPB [] 0 false w) := by
  have Hhr := Lib.hid hr
  have Hhq := Lib.hid hq
  clear hr hq
  cases hp : pairB xs ys
  · have HP := Lib.hid hp
    clear h hp
    go_enter Try.func32, Try.ntmps32
    obtain ⟨wb1, hw1⟩ : ∃ wb1 : World, wb1 = w.alloc (.cells #[.slice none 0 0, .int .i64 0] 45) := ⟨_, rfl⟩
    have z1 : wb1.heap.size = w.heap.size + 1 := by rw [hw1]; simp
    have x0_0 := (by rw [hw1]; exact cell_new _ _ _ rfl rfl : wb1.cell? ⟨w.heap.size, 0, none⟩ = some (.slice none 0 0))
    have x0_1 := (by rw [hw1]; exact cell_new _ _ _ rfl rfl : wb1.cell? ⟨w.heap.size, 1, none⟩ = some (.int .i64 0))
    have HB0 := Lib.hid (show Below w.heap.size w wb1 by rw [hw1]; exact (Below.refl w.heap.size w).alloc (Nat.le_refl _) _)
    have s1 : w.heap.size + 1 ≤ wb1.heap.size := by omega
    have f0_0 := (by rw [hw1]; exact fro_new _ _ _ rfl : wb1.frozen? ⟨w.heap.size, 0, none⟩ = false)
    have f0_1 := (by rw [hw1]; exact fro_new _ _ _ rfl : wb1.frozen? ⟨w.heap.size, 1, none⟩ = false)
    have HZ1 := Lib.hid z1
    clear z1
    go_wp2_with fail
    rw [← hw1]
    clear hw1
    refine (impl_no a xs c a' ys c' wb1 (Hhr.out.below HB0.out) (Hhq.out.below HB0.out) hn hm HP).mono ?_
    rintro e' w2 ⟨rfl, hb⟩
    replace x0_0 := cell_below hb x0_0 (by omega)
    replace x0_1 := cell_below hb x0_1 (by omega)
    replace f0_0 := fro_below hb f0_0 (by omega)
    replace f0_1 := fro_below hb f0_1 (by omega)
    have s2 := hb.size
    have HB2 := Lib.hid (HB0.out.trans (hb.mono HB0.out.size))
    clear hb
    go_wp2_with fail
    refine bodyPost_ret (v := .tuple #[.agg #[.slice none 0 0, .int .i64 0], .bool false]) (by simp [results, Try.results32, go_sem, x0_0, x0_1, f0_0, f0_1]) rfl ⟨_, rfl, OwnI.nil _ _ _, ?_⟩
    exact ((HB2.out.setCell (by simp) _).setCell (by simp) _)
  have HP := Lib.hid hp
  have g2 : (sq xs ys == 0) = true := by
    have h9 := (sq_zero ((pairB_iff _ _).1 hp).2.2).2 (h.resolve_left (by rw [hp]; simp))
    rw [h9]; rfl
  clear h hp
  go_enter Try.func32, Try.ntmps32
  obtain ⟨wb1, hw1⟩ : ∃ wb1 : World, wb1 = w.alloc (.cells #[.slice none 0 0, .int .i64 0] 45) := ⟨_, rfl⟩
  have z1 : wb1.heap.size = w.heap.size + 1 := by rw [hw1]; simp
  have x0_0 := (by rw [hw1]; exact cell_new _ _ _ rfl rfl : wb1.cell? ⟨w.heap.size, 0, none⟩ = some (.slice none 0 0))
  have x0_1 := (by rw [hw1]; exact cell_new _ _ _ rfl rfl : wb1.cell? ⟨w.heap.size, 1, none⟩ = some (.int .i64 0))
  have HB0 := Lib.hid (show Below w.heap.size w wb1 by rw [hw1]; exact (Below.refl w.heap.size w).alloc (Nat.le_refl _) _)
  have s1 : w.heap.size + 1 ≤ wb1.heap.size := by omega
  have f0_0 := (by rw [hw1]; exact fro_new _ _ _ rfl : wb1.frozen? ⟨w.heap.size, 0, none⟩ = false)
  have f0_1 := (by rw [hw1]; exact fro_new _ _ _ rfl : wb1.frozen? ⟨w.heap.size, 1, none⟩ = false)
  have HZ1 := Lib.hid z1
  clear z1
  go_wp2_with fail
  rw [← hw1]
  clear hw1
  refine (impl_yes a xs c a' ys c' wb1 (Hhr.out.below HB0.out) (Hhq.out.below HB0.out) hn hm HP).mono ?_
  rintro e' w2 ⟨rfl, hb⟩
  replace x0_0 := cell_below hb x0_0 (by omega)
  replace x0_1 := cell_below hb x0_1 (by omega)
  replace f0_0 := fro_below hb f0_0 (by omega)
  replace f0_1 := fro_below hb f0_1 (by omega)
  have s2 := hb.size
  have HB2 := Lib.hid (HB0.out.trans (hb.mono HB0.out.size))
  clear hb
  go_wp2_with fail
  refine bodyPost_ret (v := .tuple #[.agg #[.slice none 0 0, .int .i64 0], .bool false]) (by simp [results, Try.results32, go_sem, x0_0, x0_1, f0_0, f0_1]) rfl ⟨_, rfl, OwnI.nil _ _ _, ?_⟩
  exact ((HB2.out.setCell (by simp) _).setCell (by simp) _)
set_option maxRecDepth 100000 in
set_option maxHeartbeats 1600000 in
theorem impl_pp_yes (a : Option Addr) (xs : List Int) (c : Nat) (a' : Option Addr) (ys : List Int) (c' : Nat) (w : World) (hr : ints.Reads .i64 w a xs) (hq : ints.Reads .i64 w a' ys) (hn : xs.length ≤ 1048576) (hm : ys.length ≤ 1048576) (h : pairB xs ys = true) (hne : ¬ xs = ys) (hK : planeB (ppW xs ys) (ppD xs ys) = true) :
    Calls Try.prog 32 #[.slice a xs.length c, .slice a' ys.length c'] w (RetPB (ppW xs ys) (ppD xs ys) true w) := by
  obtain ⟨i0, hi, hz0, hz1, hz2⟩ := info_parts mk.infoInt
  obtain ⟨hp, hq', hl⟩ := (pairB_iff _ _).1 h
  have HP := Lib.hid h
  have g2 : (sq xs ys == 0) = false := by
    have h9 := sq_zero hl
    cases e : (sq xs ys == 0)
    · rfl
    · exact absurd (h9.1 (by simpa using e)) hne
  have HSX := Lib.hid (dot_small hp hp rfl)
  have HSY := Lib.hid (dot_small hq' hq' rfl)
  have HLE := Lib.hid hl
  have h4 := ((pointB_iff _).1 hp).2.1
  have hpd := pp_bd h
  have HPD := Lib.hid (show ppD xs ys = dot xs xs - dot ys ys from rfl)
  have HKP := Lib.hid hK
  have Hhr := Lib.hid hr
  have Hhq := Lib.hid hq
  clear hr hq
  clear h hp hq' hne hl hK
  go_enter Try.func32, Try.ntmps32
  obtain ⟨wb1, hw1⟩ : ∃ wb1 : World, wb1 = w.alloc (.cells #[.slice none 0 0, .int .i64 0] 45) := ⟨_, rfl⟩
  have z1 : wb1.heap.size = w.heap.size + 1 := by rw [hw1]; simp
  have x0_0 := (by rw [hw1]; exact cell_new _ _ _ rfl rfl : wb1.cell? ⟨w.heap.size, 0, none⟩ = some (.slice none 0 0))
  have x0_1 := (by rw [hw1]; exact cell_new _ _ _ rfl rfl : wb1.cell? ⟨w.heap.size, 1, none⟩ = some (.int .i64 0))
  have HB0 := Lib.hid (show Below w.heap.size w wb1 by rw [hw1]; exact (Below.refl w.heap.size w).alloc (Nat.le_refl _) _)
  have s1 : w.heap.size + 1 ≤ wb1.heap.size := by omega
  have f0_0 := (by rw [hw1]; exact fro_new _ _ _ rfl : wb1.frozen? ⟨w.heap.size, 0, none⟩ = false)
  have f0_1 := (by rw [hw1]; exact fro_new _ _ _ rfl : wb1.frozen? ⟨w.heap.size, 1, none⟩ = false)
  have HZ1 := Lib.hid z1
  clear z1
  go_wp2_with fail
  rw [← hw1]
  clear hw1
  refine (impl_yes a xs c a' ys c' wb1 (Hhr.out.below HB0.out) (Hhq.out.below HB0.out) hn hm HP).mono ?_
  rintro e' w2 ⟨rfl, hb⟩
  replace x0_0 := cell_below hb x0_0 (by omega)
  replace x0_1 := cell_below hb x0_1 (by omega)
  replace f0_0 := fro_below hb f0_0 (by omega)
  replace f0_1 := fro_below hb f0_1 (by omega)
  have s2 := hb.size
  have HB2 := Lib.hid (HB0.out.trans (hb.mono HB0.out.size))
  clear hb
  have e0 : IntKind.i64.wrap (dot xs xs - dot ys ys) = ppD xs ys := by rw [← HPD.out]; exact IntWalk.i64_in _ (by omega)
  obtain ⟨DD, hDD⟩ : ∃ DD : Int, DD = ppD xs ys := ⟨_, rfl⟩
  have HPO := Lib.hid (show ∀ (e' : Ending) (w' : World), RetPB (ppW xs ys) DD true w e' w' → RetPB (ppW xs ys) (ppD xs ys) true w e' w' from by rw [hDD]; exact fun _ _ hh => hh)
  rw [← hDD] at e0 HKP
  clear hDD hpd HPD
  go_wp2_with (refine wpList_make_full _ rfl _ _ 23 rfl wb1.heap.size 3 i0 (.int .i64 0) 1 Try.underlying23 hi hz0 hz1 .i64 .i64 _ _ xs.length rfl rfl rfl rfl (by rw [hz2]; omega) (by unfold maxLen; omega) (by omega) ?_; intro w4 hown1 hgrow1; refine Hid.out ?_)
  have hb4 : Below w2.heap.size w2 w4 := (Below.refl _ _).grown hgrow1 (Nat.le_refl _) (by simp)
  have s4 := hb4.size
  have hlt4 : w2.heap.size < w4.heap.size := (hown1.lt w2.heap.size rfl).2
  obtain ⟨f9, hf9⟩ : ∃ f9 : Nat → Int, f9 = fun i => 2 * (xs.getD i 0 - ys.getD i 0) := ⟨_, rfl⟩
  have HF9 := Lib.hid hf9
  clear hf9
  rw [show (Value.int .i64 0).cells = #[Value.int .i64 0] from rfl, Nat.mul_one, toList_madeCells_one, ← fil_zero f9] at hown1
  have HO1 := Lib.hid hown1
  replace x0_0 := cell_below hb4 x0_0 (by omega)
  replace x0_1 := cell_below hb4 x0_1 (by omega)
  replace f0_0 := fro_below hb4 f0_0 (by omega)
  replace f0_1 := fro_below hb4 f0_1 (by omega)
  have HB4 := Lib.hid (HB2.out.trans (hb4.mono HB2.out.size))
  have c00 := Lib.hid x0_0
  have c01 := Lib.hid x0_1
  have c02 := Lib.hid f0_0
  have c03 := Lib.hid f0_1
  clear hgrow1 hown1 hb4 x0_0 x0_1 f0_0 f0_1
  refine Lib.hid ?_
  go_wp2_with fail
  go_loopw [28] (fun i wr => ∃ k : Nat, k ≤ xs.length ∧ i = .int .i64 k ∧ wr.ownsRow wb1.heap.size 3 1 (.slice (some ⟨w2.heap.size, 0, none⟩) xs.length xs.length) xs.length (fil f9 xs.length k) ∧ Below w2.heap.size w4 wr) (fun i _ => xs.length - (intOf i).toNat)
  case atStart => exact ⟨0, Nat.zero_le _, rfl, HO1.out, (Below.refl _ _).mono (by omega)⟩
  case round =>
    obtain ⟨k, hk, rfl, hown, hbel⟩ := hrel
    have HV := Lib.hid hown.lt
    have hsz := hbel.size
    have HBwr := Lib.hid hbel
    have HB6 := Lib.hid (HB4.out.trans (hbel.mono (by omega)))
    have HOwr := Lib.hid hown
    by_cases hlt : k < xs.length
    · obtain ⟨bx, ox, rfl, hbx, hcx⟩ := Hhr.out.at hlt
      obtain ⟨by9, oy, rfl, hby, hcy⟩ := Hhq.out.at (k := k) (by have := HLE.out; omega)
      replace hcx := cell_below HB6.out hcx hbx
      replace hcy := cell_below HB6.out hcy hby
      have hab := pp_at HP.out k hlt
      have HFK := Lib.hid (show f9 k = 2 * (xs.getD k 0 - ys.getD k 0) by rw [HF9.out])
      have i1 : (0 : Int) ≤ (k : Int) := by omega
      have i2 : (k : Int) < (xs.length : Int) := by omega
      have i3 : (k : Int) < (ys.length : Int) := by have := HLE.out; omega
      clear hown hbel HO1
      generalize xs.getD k 0 = x at *
      generalize ys.getD k 0 = y at *
      have e1 : IntKind.i64.wrap (x - y) = x - y := IntWalk.i64_in _ (by omega)
      have e2 : IntKind.i64.wrap (2 * (x - y)) = 2 * (x - y) := IntWalk.i64_in _ (by omega)
      go_wp2_with fail
      refine wp_region_noPanic ?_
      refine wp_region_held_drew (S := fun w' => w'.cell? ⟨bx, ox + k, none⟩ = some (.int .i64 x) ∧ w'.cell? ⟨by9, oy + k, none⟩ = some (.int .i64 y)) (by kernel_rfl) ?_ (fun hHeld => ?_)
      · exact ⟨hcx, hcy⟩
      have hb9 : Below wr.heap.size wr wr.drew := (Below.refl _ _).drew
      have ho0 := ownsRow_block (w' := wr.drew) HOwr.out (fun g hg => hb9.block g (HV.out g hg).2)
      have hcell : wr.drew.cell? ⟨w2.heap.size, k, none⟩ = some (.int .i64 0) := by rw [ho0.cellAt k (by omega), fil_at _ _ k hlt]
      have hfro := ho0.frozenAt k
      have hst := (ho0.stored k (.int .i64 (2 * (x - y)))).1
      have HST := Lib.hid (show (wr.drew.setCell ⟨w2.heap.size, k, none⟩ (.int .i64 (2 * (x - y)))).ownsRow wb1.heap.size 3 1 (.slice (some ⟨w2.heap.size, 0, none⟩) xs.length xs.length) xs.length (fil f9 xs.length (k + 1)) by rw [← fil_succ f9 _ k hlt, HFK.out]; exact hst)
      have hc0x := cell_set2 (b' := w2.heap.size) (o' := k) (cell_below hb9 hcx (by omega)) (by omega : bx ≠ w2.heap.size) (.int .i64 (2 * (x - y)))
      have hc0y := cell_set2 (b' := w2.heap.size) (o' := k) (cell_below hb9 hcy (by omega)) (by omega : by9 ≠ w2.heap.size) (.int .i64 (2 * (x - y)))
      have HBn := Lib.hid ((HBwr.out.trans (hb9.mono (by omega))).setCell (p := ⟨w2.heap.size, k, none⟩) (Nat.le_refl _) (.int .i64 (2 * (x - y))))
      clear ho0 hst
      generalize wr.drew = v0 at *
      refine wpAnyH_take (i := 0) (v := ?_) rfl (by kernel_rfl) (by kernel_rfl) (by kernel_rfl) (fun _ _ _ h => h) (Or.inl ⟨by rfl, ?_⟩) (by assumption) ?_
      rotate_left
      · intro w9 hSw; (try dsimp only at hSw); go_simp; try with_reducible rfl
      try simp only [List.getElem_toArray, List.getElem_cons_succ, List.getElem_cons_zero, Act.put, List.setIfInBounds_toArray, List.set_cons_zero, List.set_cons_succ]
      refine wpAnyH_take (i := 1) (v := ?_) rfl (by kernel_rfl) (by kernel_rfl) (by kernel_rfl) (fun _ _ _ h => h) (Or.inl ⟨by rfl, ?_⟩) (by assumption) ?_
      rotate_left
      · intro w9 hSw; (try dsimp only at hSw); go_simp; try with_reducible rfl
      try simp only [List.getElem_toArray, List.getElem_cons_succ, List.getElem_cons_zero, Act.put, List.setIfInBounds_toArray, List.set_cons_zero, List.set_cons_succ]
      refine wpAnyH_take (i := 2) (v := ?_) rfl (by kernel_rfl) (by kernel_rfl) (by kernel_rfl) (fun _ _ _ h => h) (Or.inl ⟨by rfl, ?_⟩) (by assumption) ?_
      rotate_left
      · intro w9 hSw; (try dsimp only at hSw); go_simp; try with_reducible rfl
      try simp only [List.getElem_toArray, List.getElem_cons_succ, List.getElem_cons_zero, Act.put, List.setIfInBounds_toArray, List.set_cons_zero, List.set_cons_succ]
      refine wpAnyH_take (i := 3) (v := ?_) rfl (by kernel_rfl) (by kernel_rfl) (by kernel_rfl) (fun _ _ _ h => h) (Or.inl ⟨by rfl, ?_⟩) (by assumption) ?_
      rotate_left
      · intro w9 hSw; (try dsimp only at hSw); go_simp; try with_reducible rfl
      try simp only [List.getElem_toArray, List.getElem_cons_succ, List.getElem_cons_zero, Act.put, List.setIfInBounds_toArray, List.set_cons_zero, List.set_cons_succ]
      refine wpAnyH_take (i := 4) (v := ?_) rfl (by kernel_rfl) (by kernel_rfl) (by kernel_rfl) (fun _ _ _ h => h) (Or.inl ⟨by rfl, ?_⟩) (by assumption) ?_
      rotate_left
      · intro w9 hSw; (try dsimp only at hSw); go_simp; try with_reducible rfl
      try simp only [List.getElem_toArray, List.getElem_cons_succ, List.getElem_cons_zero, Act.put, List.setIfInBounds_toArray, List.set_cons_zero, List.set_cons_succ]
      refine wpAnyH_take (i := 5) (v := ?_) rfl (by kernel_rfl) (by kernel_rfl) (by kernel_rfl) (fun _ _ _ h => h) (Or.inl ⟨by rfl, ?_⟩) (by assumption) ?_
      rotate_left
      · intro w9 hSw; (try dsimp only at hSw); go_simp; try with_reducible rfl
      try simp only [List.getElem_toArray, List.getElem_cons_succ, List.getElem_cons_zero, Act.put, List.setIfInBounds_toArray, List.set_cons_zero, List.set_cons_succ]
      refine wpAnyH_take (i := 6) (v := ?_) rfl (by kernel_rfl) (by kernel_rfl) (by kernel_rfl) (fun _ _ _ h => h) (Or.inl ⟨by rfl, ?_⟩) (by assumption) ?_
      rotate_left
      · intro w9 hSw; (try dsimp only at hSw); go_simp; try with_reducible rfl
      try simp only [List.getElem_toArray, List.getElem_cons_succ, List.getElem_cons_zero, Act.put, List.setIfInBounds_toArray, List.set_cons_zero, List.set_cons_succ]
      refine wpAnyH_take (i := 7) (v := ?_) rfl (by kernel_rfl) (by kernel_rfl) (by kernel_rfl) (fun _ _ _ h => h) (Or.inl ⟨by rfl, ?_⟩) (by assumption) ?_
      rotate_left
      · intro w9 hSw; (try dsimp only at hSw); go_simp; try with_reducible rfl
      try simp only [List.getElem_toArray, List.getElem_cons_succ, List.getElem_cons_zero, Act.put, List.setIfInBounds_toArray, List.set_cons_zero, List.set_cons_succ]
      refine wpAnyH_take (i := 8) (v := ?_) rfl (by kernel_rfl) (by kernel_rfl) (by kernel_rfl) (fun _ _ _ h => h) (Or.inl ⟨by rfl, ?_⟩) (by assumption) ?_
      rotate_left
      · intro w9 hSw; (try dsimp only at hSw); go_simp; try with_reducible rfl
      try simp only [List.getElem_toArray, List.getElem_cons_succ, List.getElem_cons_zero, Act.put, List.setIfInBounds_toArray, List.set_cons_zero, List.set_cons_succ]
      refine wpAnyH_take (i := 9) (v := ?_) rfl (by kernel_rfl) (by kernel_rfl) (by kernel_rfl) (fun _ _ _ h => h) (Or.inl ⟨by rfl, ?_⟩) (by assumption) ?_
      rotate_left
      · intro w9 hSw; (try dsimp only at hSw); go_simp; try with_reducible rfl
      try simp only [List.getElem_toArray, List.getElem_cons_succ, List.getElem_cons_zero, Act.put, List.setIfInBounds_toArray, List.set_cons_zero, List.set_cons_succ]
      refine wpAnyH_take (i := 10) (v := ?_) rfl (by kernel_rfl) (by kernel_rfl) (by kernel_rfl) (fun _ _ _ h => h) (Or.inl ⟨by rfl, ?_⟩) (by assumption) ?_
      rotate_left
      · intro w9 hSw; (try dsimp only at hSw); go_simp; try with_reducible rfl
      try simp only [List.getElem_toArray, List.getElem_cons_succ, List.getElem_cons_zero, Act.put, List.setIfInBounds_toArray, List.set_cons_zero, List.set_cons_succ]
      refine wpAnyH_take (i := 11) (v := ?_) rfl (by kernel_rfl) (by kernel_rfl) (by kernel_rfl) (fun _ _ _ h => h) (Or.inl ⟨by rfl, ?_⟩) (by assumption) ?_
      rotate_left
      · intro w9 hSw; (try dsimp only at hSw); go_simp; try with_reducible rfl
      try simp only [List.getElem_toArray, List.getElem_cons_succ, List.getElem_cons_zero, Act.put, List.setIfInBounds_toArray, List.set_cons_zero, List.set_cons_succ]
      refine wpAnyH_take (i := 12) (v := ?_) rfl (by kernel_rfl) (by kernel_rfl) (by kernel_rfl) (fun _ _ _ h => h) (Or.inl ⟨by rfl, ?_⟩) (by assumption) ?_
      rotate_left
      · intro w9 hSw; (try dsimp only at hSw); go_simp; try with_reducible rfl
      try simp only [List.getElem_toArray, List.getElem_cons_succ, List.getElem_cons_zero, Act.put, List.setIfInBounds_toArray, List.set_cons_zero, List.set_cons_succ]
      refine wpAnyH_ready (rs := [13]) (by kernel_rfl) (by simp) ?_
      refine AllReadyH.cons rfl (fun K hK => ?_) AllReadyH.nil
      clear hHeld
      go_simp
      refine hK.out _ _ ?_ (fun hHeld => ?_)
      · exact ⟨hc0x, hc0y⟩
      clear hK K
      try simp only [List.getElem_toArray, List.getElem_cons_succ, List.getElem_cons_zero, Act.put, List.setIfInBounds_toArray, List.set_cons_zero, List.set_cons_succ]
      refine wpAnyH_done (by kernel_rfl) ?_ _
      refine NoPanic.normal ?_
      go_wp2_with fail
      go_roundw
      case rel => exact ⟨k + 1, by omega, by go_num, HST.out, HBn.out⟩
      case measure => simp [intOf]; omega
    · obtain rfl : k = xs.length := by omega
      have HW := Lib.hid (show ppW xs ys = mk.mk f9 xs.length by rw [HF9.out]; rfl)
      have hol : OwnI wb1.heap.size wr.heap.size wr (.slice (some ⟨w2.heap.size, 0, none⟩) (ppW xs ys).length xs.length) (ppW xs ys) := by rw [HW.out]; exact OwnI.of (by have h9 := hown; rw [fil_all] at h9; rw [mk_length]; exact h9)
      have hlw := ppW_length xs ys
      have HOL := Lib.hid hol
      have x0_0 := cell_below hbel c00.out (by omega)
      have x0_1 := cell_below hbel c01.out (by omega)
      have f0_0 := fro_below hbel c02.out (by omega)
      have f0_1 := fro_below hbel c03.out (by omega)
      clear hown hbel hol HO1
      go_wp2_with fail
      refine (impl_dot a xs c a xs c wr (Hhr.out.below HB6.out) (Hhr.out.below HB6.out) hn (Nat.le_refl _) hn HSX.out).mono ?_
      rintro e' w' ⟨rfl, m9, rfl⟩
      have hb := ints.below_drewN (Below.refl wr.heap.size wr) m9
      generalize hw9 : wr.drewN m9 = w7 at *
      clear hw9
      replace x0_0 := cell_below hb x0_0 (by omega)
      replace x0_1 := cell_below hb x0_1 (by omega)
      replace f0_0 := fro_below hb f0_0 (by omega)
      replace f0_1 := fro_below hb f0_1 (by omega)
      replace HOL := Lib.hid (HOL.out.below hb)
      have s7 := hb.size
      have HB7 := Lib.hid (HB6.out.trans (hb.mono HB6.out.size))
      clear hb
      go_wp2_with fail
      refine (impl_dot a' ys c' a' ys c' w7 (Hhq.out.below HB7.out) (Hhq.out.below HB7.out) hm (Nat.le_refl _) hm HSY.out).mono ?_
      rintro e' w' ⟨rfl, m9, rfl⟩
      have hb := ints.below_drewN (Below.refl w7.heap.size w7) m9
      generalize hw9 : w7.drewN m9 = w8 at *
      clear hw9
      replace x0_0 := cell_below hb x0_0 (by omega)
      replace x0_1 := cell_below hb x0_1 (by omega)
      replace f0_0 := fro_below hb f0_0 (by omega)
      replace f0_1 := fro_below hb f0_1 (by omega)
      replace HOL := Lib.hid (HOL.out.below hb)
      have s8 := hb.size
      have HB8 := Lib.hid (HB7.out.trans (hb.mono HB7.out.size))
      clear hb
      generalize dot xs xs = dx at *
      generalize dot ys ys = dy at *
      have HKT := Lib.hid (impl_kept_yes (some ⟨w2.heap.size, 0, none⟩) (ppW xs ys) xs.length DD w8 HOL.out.reads (by rw [hlw]; omega) (Lib.hid HKP.out))
      rw [hlw] at HKT HOL
      go_wp2_with fail
      refine HKT.out.mono ?_
      rintro e' w9 ⟨rfl, hb⟩
      have hs9 := hb.size
      have hB9 := HB8.out.trans (hb.mono HB8.out.size)
      have HB9 := Lib.hid hB9
      replace x0_0 := cell_below hb x0_0 (by omega)
      replace x0_1 := cell_below hb x0_1 (by omega)
      replace f0_0 := fro_below hb f0_0 (by omega)
      replace f0_1 := fro_below hb f0_1 (by omega)
      have HO9 := Lib.hid (HOL.out.below hb)
      clear hb hB9
      go_wp2_with fail
      refine bodyPost_ret (v := .tuple #[.agg #[.slice (some ⟨w2.heap.size, 0, none⟩) xs.length xs.length, .int .i64 DD], .bool true]) (by simp [results, Try.results32, go_sem, x0_0, x0_1, f0_0, f0_1]) rfl (HPO.out _ _ ⟨_, rfl, ?_, ?_⟩)
      · simp only [size_set]; exact ((HO9.out.set (by show w.heap.size < _; omega) _).set (by show w.heap.size < _; omega) _).mono (by omega) (by omega)
      · exact (HB9.out.setCell (by simp) _).setCell (by simp) _
set_option maxRecDepth 100000 in
set_option maxHeartbeats 1600000 in
theorem impl_pp_out (a : Option Addr) (xs : List Int) (c : Nat) (a' : Option Addr) (ys : List Int) (c' : Nat) (w : World) (hr : ints.Reads .i64 w a xs) (hq : ints.Reads .i64 w a' ys) (hn : xs.length ≤ 1048576) (hm : ys.length ≤ 1048576) (h : pairB xs ys = true) (hne : ¬ xs = ys) (hK : planeB (ppW xs ys) (ppD xs ys) = false) :
    Calls Try.prog 32 #[.slice a xs.length c, .slice a' ys.length c'] w (RetPB [] 0 false w) := by
  obtain ⟨i0, hi, hz0, hz1, hz2⟩ := info_parts mk.infoInt
  obtain ⟨hp, hq', hl⟩ := (pairB_iff _ _).1 h
  have HP := Lib.hid h
  have g2 : (sq xs ys == 0) = false := by
    have h9 := sq_zero hl
    cases e : (sq xs ys == 0)
    · rfl
    · exact absurd (h9.1 (by simpa using e)) hne
  have HSX := Lib.hid (dot_small hp hp rfl)
  have HSY := Lib.hid (dot_small hq' hq' rfl)
  have HLE := Lib.hid hl
  have h4 := ((pointB_iff _).1 hp).2.1
  have hpd := pp_bd h
  have HPD := Lib.hid (show ppD xs ys = dot xs xs - dot ys ys from rfl)
  have HKP := Lib.hid hK
  have Hhr := Lib.hid hr
  have Hhq := Lib.hid hq
  clear hr hq
  clear h hp hq' hne hl hK
  go_enter Try.func32, Try.ntmps32
  obtain ⟨wb1, hw1⟩ : ∃ wb1 : World, wb1 = w.alloc (.cells #[.slice none 0 0, .int .i64 0] 45) := ⟨_, rfl⟩
  have z1 : wb1.heap.size = w.heap.size + 1 := by rw [hw1]; simp
  have x0_0 := (by rw [hw1]; exact cell_new _ _ _ rfl rfl : wb1.cell? ⟨w.heap.size, 0, none⟩ = some (.slice none 0 0))
  have x0_1 := (by rw [hw1]; exact cell_new _ _ _ rfl rfl : wb1.cell? ⟨w.heap.size, 1, none⟩ = some (.int .i64 0))
  have HB0 := Lib.hid (show Below w.heap.size w wb1 by rw [hw1]; exact (Below.refl w.heap.size w).alloc (Nat.le_refl _) _)
  have s1 : w.heap.size + 1 ≤ wb1.heap.size := by omega
  have f0_0 := (by rw [hw1]; exact fro_new _ _ _ rfl : wb1.frozen? ⟨w.heap.size, 0, none⟩ = false)
  have f0_1 := (by rw [hw1]; exact fro_new _ _ _ rfl : wb1.frozen? ⟨w.heap.size, 1, none⟩ = false)
  have HZ1 := Lib.hid z1
  clear z1
  go_wp2_with fail
  rw [← hw1]
  clear hw1
  refine (impl_yes a xs c a' ys c' wb1 (Hhr.out.below HB0.out) (Hhq.out.below HB0.out) hn hm HP).mono ?_
  rintro e' w2 ⟨rfl, hb⟩
  replace x0_0 := cell_below hb x0_0 (by omega)
  replace x0_1 := cell_below hb x0_1 (by omega)
  replace f0_0 := fro_below hb f0_0 (by omega)
  replace f0_1 := fro_below hb f0_1 (by omega)
  have s2 := hb.size
  have HB2 := Lib.hid (HB0.out.trans (hb.mono HB0.out.size))
  clear hb
  have e0 : IntKind.i64.wrap (dot xs xs - dot ys ys) = ppD xs ys := by rw [← HPD.out]; exact IntWalk.i64_in _ (by omega)
  obtain ⟨DD, hDD⟩ : ∃ DD : Int, DD = ppD xs ys := ⟨_, rfl⟩
  have HPO := Lib.hid (show ∀ (e' : Ending) (w' : World), RetPB (ppW xs ys) DD true w e' w' → RetPB (ppW xs ys) (ppD xs ys) true w e' w' from by rw [hDD]; exact fun _ _ hh => hh)
  rw [← hDD] at e0 HKP
  clear hDD hpd HPD
  go_wp2_with (refine wpList_make_full _ rfl _ _ 23 rfl wb1.heap.size 3 i0 (.int .i64 0) 1 Try.underlying23 hi hz0 hz1 .i64 .i64 _ _ xs.length rfl rfl rfl rfl (by rw [hz2]; omega) (by unfold maxLen; omega) (by omega) ?_; intro w4 hown1 hgrow1; refine Hid.out ?_)
  have hb4 : Below w2.heap.size w2 w4 := (Below.refl _ _).grown hgrow1 (Nat.le_refl _) (by simp)
  have s4 := hb4.size
  have hlt4 : w2.heap.size < w4.heap.size := (hown1.lt w2.heap.size rfl).2
  obtain ⟨f9, hf9⟩ : ∃ f9 : Nat → Int, f9 = fun i => 2 * (xs.getD i 0 - ys.getD i 0) := ⟨_, rfl⟩
  have HF9 := Lib.hid hf9
  clear hf9
  rw [show (Value.int .i64 0).cells = #[Value.int .i64 0] from rfl, Nat.mul_one, toList_madeCells_one, ← fil_zero f9] at hown1
  have HO1 := Lib.hid hown1
  replace x0_0 := cell_below hb4 x0_0 (by omega)
  replace x0_1 := cell_below hb4 x0_1 (by omega)
  replace f0_0 := fro_below hb4 f0_0 (by omega)
  replace f0_1 := fro_below hb4 f0_1 (by omega)
  have HB4 := Lib.hid (HB2.out.trans (hb4.mono HB2.out.size))
  have c00 := Lib.hid x0_0
  have c01 := Lib.hid x0_1
  have c02 := Lib.hid f0_0
  have c03 := Lib.hid f0_1
  clear hgrow1 hown1 hb4 x0_0 x0_1 f0_0 f0_1
  refine Lib.hid ?_
  go_wp2_with fail
  go_loopw [28] (fun i wr => ∃ k : Nat, k ≤ xs.length ∧ i = .int .i64 k ∧ wr.ownsRow wb1.heap.size 3 1 (.slice (some ⟨w2.heap.size, 0, none⟩) xs.length xs.length) xs.length (fil f9 xs.length k) ∧ Below w2.heap.size w4 wr) (fun i _ => xs.length - (intOf i).toNat)
  case atStart => exact ⟨0, Nat.zero_le _, rfl, HO1.out, (Below.refl _ _).mono (by omega)⟩
  case round =>
    obtain ⟨k, hk, rfl, hown, hbel⟩ := hrel
    have HV := Lib.hid hown.lt
    have hsz := hbel.size
    have HBwr := Lib.hid hbel
    have HB6 := Lib.hid (HB4.out.trans (hbel.mono (by omega)))
    have HOwr := Lib.hid hown
    by_cases hlt : k < xs.length
    · obtain ⟨bx, ox, rfl, hbx, hcx⟩ := Hhr.out.at hlt
      obtain ⟨by9, oy, rfl, hby, hcy⟩ := Hhq.out.at (k := k) (by have := HLE.out; omega)
      replace hcx := cell_below HB6.out hcx hbx
      replace hcy := cell_below HB6.out hcy hby
      have hab := pp_at HP.out k hlt
      have HFK := Lib.hid (show f9 k = 2 * (xs.getD k 0 - ys.getD k 0) by rw [HF9.out])
      have i1 : (0 : Int) ≤ (k : Int) := by omega
      have i2 : (k : Int) < (xs.length : Int) := by omega
      have i3 : (k : Int) < (ys.length : Int) := by have := HLE.out; omega
      clear hown hbel HO1
      generalize xs.getD k 0 = x at *
      generalize ys.getD k 0 = y at *
      have e1 : IntKind.i64.wrap (x - y) = x - y := IntWalk.i64_in _ (by omega)
      have e2 : IntKind.i64.wrap (2 * (x - y)) = 2 * (x - y) := IntWalk.i64_in _ (by omega)
      go_wp2_with fail
      refine wp_region_noPanic ?_
      refine wp_region_held_drew (S := fun w' => w'.cell? ⟨bx, ox + k, none⟩ = some (.int .i64 x) ∧ w'.cell? ⟨by9, oy + k, none⟩ = some (.int .i64 y)) (by kernel_rfl) ?_ (fun hHeld => ?_)
      · exact ⟨hcx, hcy⟩
      have hb9 : Below wr.heap.size wr wr.drew := (Below.refl _ _).drew
      have ho0 := ownsRow_block (w' := wr.drew) HOwr.out (fun g hg => hb9.block g (HV.out g hg).2)
      have hcell : wr.drew.cell? ⟨w2.heap.size, k, none⟩ = some (.int .i64 0) := by rw [ho0.cellAt k (by omega), fil_at _ _ k hlt]
      have hfro := ho0.frozenAt k
      have hst := (ho0.stored k (.int .i64 (2 * (x - y)))).1
      have HST := Lib.hid (show (wr.drew.setCell ⟨w2.heap.size, k, none⟩ (.int .i64 (2 * (x - y)))).ownsRow wb1.heap.size 3 1 (.slice (some ⟨w2.heap.size, 0, none⟩) xs.length xs.length) xs.length (fil f9 xs.length (k + 1)) by rw [← fil_succ f9 _ k hlt, HFK.out]; exact hst)
      have hc0x := cell_set2 (b' := w2.heap.size) (o' := k) (cell_below hb9 hcx (by omega)) (by omega : bx ≠ w2.heap.size) (.int .i64 (2 * (x - y)))
      have hc0y := cell_set2 (b' := w2.heap.size) (o' := k) (cell_below hb9 hcy (by omega)) (by omega : by9 ≠ w2.heap.size) (.int .i64 (2 * (x - y)))
      have HBn := Lib.hid ((HBwr.out.trans (hb9.mono (by omega))).setCell (p := ⟨w2.heap.size, k, none⟩) (Nat.le_refl _) (.int .i64 (2 * (x - y))))
      clear ho0 hst
      generalize wr.drew = v0 at *
      refine wpAnyH_take (i := 0) (v := ?_) rfl (by kernel_rfl) (by kernel_rfl) (by kernel_rfl) (fun _ _ _ h => h) (Or.inl ⟨by rfl, ?_⟩) (by assumption) ?_
      rotate_left
      · intro w9 hSw; (try dsimp only at hSw); go_simp; try with_reducible rfl
      try simp only [List.getElem_toArray, List.getElem_cons_succ, List.getElem_cons_zero, Act.put, List.setIfInBounds_toArray, List.set_cons_zero, List.set_cons_succ]
      refine wpAnyH_take (i := 1) (v := ?_) rfl (by kernel_rfl) (by kernel_rfl) (by kernel_rfl) (fun _ _ _ h => h) (Or.inl ⟨by rfl, ?_⟩) (by assumption) ?_
      rotate_left
      · intro w9 hSw; (try dsimp only at hSw); go_simp; try with_reducible rfl
      try simp only [List.getElem_toArray, List.getElem_cons_succ, List.getElem_cons_zero, Act.put, List.setIfInBounds_toArray, List.set_cons_zero, List.set_cons_succ]
      refine wpAnyH_take (i := 2) (v := ?_) rfl (by kernel_rfl) (by kernel_rfl) (by kernel_rfl) (fun _ _ _ h => h) (Or.inl ⟨by rfl, ?_⟩) (by assumption) ?_
      rotate_left
      · intro w9 hSw; (try dsimp only at hSw); go_simp; try with_reducible rfl
      try simp only [List.getElem_toArray, List.getElem_cons_succ, List.getElem_cons_zero, Act.put, List.setIfInBounds_toArray, List.set_cons_zero, List.set_cons_succ]
      refine wpAnyH_take (i := 3) (v := ?_) rfl (by kernel_rfl) (by kernel_rfl) (by kernel_rfl) (fun _ _ _ h => h) (Or.inl ⟨by rfl, ?_⟩) (by assumption) ?_
      rotate_left
      · intro w9 hSw; (try dsimp only at hSw); go_simp; try with_reducible rfl
      try simp only [List.getElem_toArray, List.getElem_cons_succ, List.getElem_cons_zero, Act.put, List.setIfInBounds_toArray, List.set_cons_zero, List.set_cons_succ]
      refine wpAnyH_take (i := 4) (v := ?_) rfl (by kernel_rfl) (by kernel_rfl) (by kernel_rfl) (fun _ _ _ h => h) (Or.inl ⟨by rfl, ?_⟩) (by assumption) ?_
      rotate_left
      · intro w9 hSw; (try dsimp only at hSw); go_simp; try with_reducible rfl
      try simp only [List.getElem_toArray, List.getElem_cons_succ, List.getElem_cons_zero, Act.put, List.setIfInBounds_toArray, List.set_cons_zero, List.set_cons_succ]
      refine wpAnyH_take (i := 5) (v := ?_) rfl (by kernel_rfl) (by kernel_rfl) (by kernel_rfl) (fun _ _ _ h => h) (Or.inl ⟨by rfl, ?_⟩) (by assumption) ?_
      rotate_left
      · intro w9 hSw; (try dsimp only at hSw); go_simp; try with_reducible rfl
      try simp only [List.getElem_toArray, List.getElem_cons_succ, List.getElem_cons_zero, Act.put, List.setIfInBounds_toArray, List.set_cons_zero, List.set_cons_succ]
      refine wpAnyH_take (i := 6) (v := ?_) rfl (by kernel_rfl) (by kernel_rfl) (by kernel_rfl) (fun _ _ _ h => h) (Or.inl ⟨by rfl, ?_⟩) (by assumption) ?_
      rotate_left
      · intro w9 hSw; (try dsimp only at hSw); go_simp; try with_reducible rfl
      try simp only [List.getElem_toArray, List.getElem_cons_succ, List.getElem_cons_zero, Act.put, List.setIfInBounds_toArray, List.set_cons_zero, List.set_cons_succ]
      refine wpAnyH_take (i := 7) (v := ?_) rfl (by kernel_rfl) (by kernel_rfl) (by kernel_rfl) (fun _ _ _ h => h) (Or.inl ⟨by rfl, ?_⟩) (by assumption) ?_
      rotate_left
      · intro w9 hSw; (try dsimp only at hSw); go_simp; try with_reducible rfl
      try simp only [List.getElem_toArray, List.getElem_cons_succ, List.getElem_cons_zero, Act.put, List.setIfInBounds_toArray, List.set_cons_zero, List.set_cons_succ]
      refine wpAnyH_take (i := 8) (v := ?_) rfl (by kernel_rfl) (by kernel_rfl) (by kernel_rfl) (fun _ _ _ h => h) (Or.inl ⟨by rfl, ?_⟩) (by assumption) ?_
      rotate_left
      · intro w9 hSw; (try dsimp only at hSw); go_simp; try with_reducible rfl
      try simp only [List.getElem_toArray, List.getElem_cons_succ, List.getElem_cons_zero, Act.put, List.setIfInBounds_toArray, List.set_cons_zero, List.set_cons_succ]
      refine wpAnyH_take (i := 9) (v := ?_) rfl (by kernel_rfl) (by kernel_rfl) (by kernel_rfl) (fun _ _ _ h => h) (Or.inl ⟨by rfl, ?_⟩) (by assumption) ?_
      rotate_left
      · intro w9 hSw; (try dsimp only at hSw); go_simp; try with_reducible rfl
      try simp only [List.getElem_toArray, List.getElem_cons_succ, List.getElem_cons_zero, Act.put, List.setIfInBounds_toArray, List.set_cons_zero, List.set_cons_succ]
      refine wpAnyH_take (i := 10) (v := ?_) rfl (by kernel_rfl) (by kernel_rfl) (by kernel_rfl) (fun _ _ _ h => h) (Or.inl ⟨by rfl, ?_⟩) (by assumption) ?_
      rotate_left
      · intro w9 hSw; (try dsimp only at hSw); go_simp; try with_reducible rfl
      try simp only [List.getElem_toArray, List.getElem_cons_succ, List.getElem_cons_zero, Act.put, List.setIfInBounds_toArray, List.set_cons_zero, List.set_cons_succ]
      refine wpAnyH_take (i := 11) (v := ?_) rfl (by kernel_rfl) (by kernel_rfl) (by kernel_rfl) (fun _ _ _ h => h) (Or.inl ⟨by rfl, ?_⟩) (by assumption) ?_
      rotate_left
      · intro w9 hSw; (try dsimp only at hSw); go_simp; try with_reducible rfl
      try simp only [List.getElem_toArray, List.getElem_cons_succ, List.getElem_cons_zero, Act.put, List.setIfInBounds_toArray, List.set_cons_zero, List.set_cons_succ]
      refine wpAnyH_take (i := 12) (v := ?_) rfl (by kernel_rfl) (by kernel_rfl) (by kernel_rfl) (fun _ _ _ h => h) (Or.inl ⟨by rfl, ?_⟩) (by assumption) ?_
      rotate_left
      · intro w9 hSw; (try dsimp only at hSw); go_simp; try with_reducible rfl
      try simp only [List.getElem_toArray, List.getElem_cons_succ, List.getElem_cons_zero, Act.put, List.setIfInBounds_toArray, List.set_cons_zero, List.set_cons_succ]
      refine wpAnyH_ready (rs := [13]) (by kernel_rfl) (by simp) ?_
      refine AllReadyH.cons rfl (fun K hK => ?_) AllReadyH.nil
      clear hHeld
      go_simp
      refine hK.out _ _ ?_ (fun hHeld => ?_)
      · exact ⟨hc0x, hc0y⟩
      clear hK K
      try simp only [List.getElem_toArray, List.getElem_cons_succ, List.getElem_cons_zero, Act.put, List.setIfInBounds_toArray, List.set_cons_zero, List.set_cons_succ]
      refine wpAnyH_done (by kernel_rfl) ?_ _
      refine NoPanic.normal ?_
      go_wp2_with fail
      go_roundw
      case rel => exact ⟨k + 1, by omega, by go_num, HST.out, HBn.out⟩
      case measure => simp [intOf]; omega
    · obtain rfl : k = xs.length := by omega
      have HW := Lib.hid (show ppW xs ys = mk.mk f9 xs.length by rw [HF9.out]; rfl)
      have hol : OwnI wb1.heap.size wr.heap.size wr (.slice (some ⟨w2.heap.size, 0, none⟩) (ppW xs ys).length xs.length) (ppW xs ys) := by rw [HW.out]; exact OwnI.of (by have h9 := hown; rw [fil_all] at h9; rw [mk_length]; exact h9)
      have hlw := ppW_length xs ys
      have HOL := Lib.hid hol
      have x0_0 := cell_below hbel c00.out (by omega)
      have x0_1 := cell_below hbel c01.out (by omega)
      have f0_0 := fro_below hbel c02.out (by omega)
      have f0_1 := fro_below hbel c03.out (by omega)
      clear hown hbel hol HO1
      go_wp2_with fail
      refine (impl_dot a xs c a xs c wr (Hhr.out.below HB6.out) (Hhr.out.below HB6.out) hn (Nat.le_refl _) hn HSX.out).mono ?_
      rintro e' w' ⟨rfl, m9, rfl⟩
      have hb := ints.below_drewN (Below.refl wr.heap.size wr) m9
      generalize hw9 : wr.drewN m9 = w7 at *
      clear hw9
      replace x0_0 := cell_below hb x0_0 (by omega)
      replace x0_1 := cell_below hb x0_1 (by omega)
      replace f0_0 := fro_below hb f0_0 (by omega)
      replace f0_1 := fro_below hb f0_1 (by omega)
      replace HOL := Lib.hid (HOL.out.below hb)
      have s7 := hb.size
      have HB7 := Lib.hid (HB6.out.trans (hb.mono HB6.out.size))
      clear hb
      go_wp2_with fail
      refine (impl_dot a' ys c' a' ys c' w7 (Hhq.out.below HB7.out) (Hhq.out.below HB7.out) hm (Nat.le_refl _) hm HSY.out).mono ?_
      rintro e' w' ⟨rfl, m9, rfl⟩
      have hb := ints.below_drewN (Below.refl w7.heap.size w7) m9
      generalize hw9 : w7.drewN m9 = w8 at *
      clear hw9
      replace x0_0 := cell_below hb x0_0 (by omega)
      replace x0_1 := cell_below hb x0_1 (by omega)
      replace f0_0 := fro_below hb f0_0 (by omega)
      replace f0_1 := fro_below hb f0_1 (by omega)
      replace HOL := Lib.hid (HOL.out.below hb)
      have s8 := hb.size
      have HB8 := Lib.hid (HB7.out.trans (hb.mono HB7.out.size))
      clear hb
      generalize dot xs xs = dx at *
      generalize dot ys ys = dy at *
      have HKT := Lib.hid (impl_kept_no (some ⟨w2.heap.size, 0, none⟩) (ppW xs ys) xs.length DD w8 HOL.out.reads (by rw [hlw]; omega) (Lib.hid HKP.out))
      rw [hlw] at HKT HOL
      go_wp2_with fail
      refine HKT.out.mono ?_
      rintro e' w9 ⟨rfl, hb⟩
      have hs9 := hb.size
      have hB9 := HB8.out.trans (hb.mono HB8.out.size)
      have HB9 := Lib.hid hB9
      replace x0_0 := cell_below hb x0_0 (by omega)
      replace x0_1 := cell_below hb x0_1 (by omega)
      replace f0_0 := fro_below hb f0_0 (by omega)
      replace f0_1 := fro_below hb f0_1 (by omega)
      have HO9 := Lib.hid (HOL.out.below hb)
      clear hb hB9
      go_wp2_with fail
      refine bodyPost_ret (v := .tuple #[.agg #[.slice none 0 0, .int .i64 0], .bool false]) (by simp [results, Try.results32, go_sem, x0_0, x0_1, f0_0, f0_1]) rfl ⟨_, rfl, OwnI.nil _ _ _, ?_⟩
      exact ((HB9.out.setCell (by simp) _).setCell (by simp) _)
end Go.Proofs.Ytkbcofgigfnfaaa.pairi
