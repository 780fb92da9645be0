/- The model's copy of a net. -/
import Derived.Test.YtkbcofgigfnfaaaNetB
import Derived.Test.YtkbcofgigfnfaaaOwn0
import Derived.Test.YtkbcofgigfnfaaaOutBox
import Derived.Test.YtkbcofgigfnfaaaStepA
import Derived.Test.YtkbcofgigfnfaaaStmp
import Derived.Deep.RegionHeld3
import Derived.Deep.DrawnRows
import Derived.Deep.AppendLies
import Derived.BigQuiet
namespace Go.Proofs.Ytkbcofgigfnfaaa.ownnet
open Go.RowKit own pp nums own0 stepa stmp
set_option linter.unusedVariables false
set_option linter.unusedSimpArgs false

/-- v, the layers in the box B, is made since lo (not B), the layers themselves behind B. -/
def OutL (lo B hi : Nat) (w : World) (v : Value) (vs : List Value) (css : List (List Value)) (ls : List (List (List Int × Int))) : Prop :=
  w.ownsRow lo 100 1 v ls.length vs ∧ (∀ g, v.ownBlock = some g → g ≠ B ∧ g < hi) ∧ LaysOf (B + 1) hi w vs css ls
theorem OutL.below {lo B hi : Nat} {w W : World} {v : Value} {vs : List Value} {css : List (List Value)} {ls : List (List (List Int × Int))} (h : OutL lo B hi w v vs css ls) (hb : Below w.heap.size w W) : OutL lo B hi W v vs css ls :=
  ⟨ownsRow_block h.1 fun g hg => hb.block g (h.1.lt g hg).2, h.2.1, h.2.2.below hb⟩
theorem OutL.set {lo B hi : Nat} {w : World} {v : Value} {vs : List Value} {css : List (List Value)} {ls : List (List (List Int × Int))} (h : OutL lo B hi w v vs css ls) (o : Nat) (u : Value) : OutL lo B hi (w.setCell ⟨B, o, none⟩ u) v vs css ls :=
  ⟨ownsRow_block h.1 fun g hg => Below.heap_setCell _ _ _ _ (h.2.1 g hg).1, h.2.1, h.2.2.keep fun g hf => Below.heap_setCell _ _ _ _ (by have := h.2.2.foot hf; show g ≠ B; omega)⟩
theorem OutL.toL {lo B hi : Nat} {w : World} {v : Value} {vs : List Value} {css : List (List Value)} {ls : List (List (List Int × Int))} (h : OutL lo B hi w v vs css ls) (hl : lo ≤ B + 1) : OwnLK lo hi w v ls vs css :=
  ⟨h.1, fun g e => (h.2.1 g e).2, h.2.2.mono hl (Nat.le_refl _)⟩
theorem OutL.row {lo B hi : Nat} {W W3 : World} {v : Value} {vs : List Value} {css : List (List Value)} {ls : List (List (List Int × Int))} {O : Obj} {c : Value} {cs : List Value} {ps : List (List Int × Int)} {g' cap : Nat} (h : OutL lo B hi W v vs css ls) (hc : OwnK hi W.heap.size W c ps cs) (hhi : hi ≤ W.heap.size) (hB : B < hi)
    (hg : (W.alloc O).grownBy W3 v.ownBlock) (hown : W3.ownsRow lo 100 1 (.slice (some ⟨g', 0, none⟩) (ls.length + 1) cap) (ls.length + 1) (vs ++ [c])) (hat : v.ownBlock = some g' ∨ g' = W.heap.size + 1) (hlt : g' < W3.heap.size) :
    OutL lo B W3.heap.size W3 (.slice (some ⟨g', 0, none⟩) (ls.length + 1) cap) (vs ++ [c]) (css ++ [cs]) (ls ++ [ps]) := by
  have hs : W.heap.size ≤ W3.heap.size := Nat.le_trans (by simp) hg.size
  obtain ⟨h1, h2, h3⟩ := h
  have hsn := h3.snoc hc (by omega) hhi
  refine ⟨by simpa using hown, fun g e => ?_, (hsn.keep fun g hf => ?_).mono (Nat.le_refl _) hs⟩
  · obtain rfl : g' = g := by simpa [Value.ownBlock] using e
    refine ⟨fun e2 => ?_, hlt⟩
    rcases hat with ha | ha
    · exact (h2 _ ha).1 e2
    · omega
  · obtain ⟨i, hi', hb⟩ := hf
    exact grown_block hg g ((hsn.2.2.1 i hi').foot hb).2.2 (fun e => (hsn.2.2.1 i hi').apart h1 e hb)
theorem OwnLK.set {lo hi : Nat} {w : World} {v : Value} {ls : List (List (List Int × Int))} {vs : List Value} {css : List (List Value)} (h : OwnLK lo hi w v ls vs css) {a : Addr} (ha : a.block < lo) (u : Value) : OwnLK lo hi (w.setCell a u) v ls vs css :=
  ⟨ownsRow_block h.1 fun g hg => Below.heap_setCell _ _ _ _ (by have := (h.1.lt g hg).1; omega), h.2.1, h.2.2.keep fun g hf => Below.heap_setCell _ _ _ _ (by have := h.2.2.foot hf; omega)⟩
theorem OwnLK.mono {lo hi lo' hi' : Nat} {w : World} {v : Value} {ls : List (List (List Int × Int))} {vs : List Value} {css : List (List Value)} (h : OwnLK lo hi w v ls vs css) (h1 : lo' ≤ lo) (h2 : hi ≤ hi') : OwnLK lo' hi' w v ls vs css :=
  ⟨ownsRow_base h.1 (fun g hg => Nat.le_trans h1 (h.1.lt g hg).1), fun g hg => Nat.lt_of_lt_of_le (h.2.1 g hg) h2, h.2.2.mono h1 h2⟩
theorem infoJ : (Try.prog.info? 100).map (fun i => (i.zero, i.size, i.bytes)) = some (some (.slice none 0 0), 1, 24) := by kernel_rfl
theorem take_len {α : Type} (xs : List α) (k : Nat) (h : k ≤ xs.length) : (xs.take k).length = k := by rw [List.length_take]; omega
/-- What it returns: a net that it made. -/
def MadeN (ls : List (List (List Int × Int))) (n : Int) (w : World) (e : Ending) (w' : World) : Prop := ∃ p q vs css, e = .returned (.agg #[.int .i64 n, .slice p ls.length q]) ∧ OwnLK w.heap.size w'.heap.size w' (.slice p ls.length q) ls vs css ∧ Below w.heap.size w w'
set_option maxRecDepth 100000 in
set_option maxHeartbeats 1600000 in
theorem spec_copy_net (a : Option Addr) (ls : List (List (List Int × Int))) (c : Nat) (n : Int) (w : World) (hr : ReadsL w a ls) (hn : ls.length ≤ 1048576) (hm : ∀ x ∈ ls, x.length ≤ 1048576 ∧ ∀ y ∈ x, y.1.length ≤ 1048576) :
    Calls Try.prog 106 #[.agg #[.int .i64 n, .slice a ls.length c]] w (MadeN ls n w) := by
  obtain ⟨i0, hi, hz0, hz1, hz2⟩ := info_parts infoP
  obtain ⟨j0, hj0, hjz0, hjz1, hjz2⟩ := info_parts infoJ
  have Hhr := Lib.hid hr
  have Hhm := Lib.hid hm
  clear hr hm
  go_enter Try.func106, Try.ntmps106
  obtain ⟨wb1, hw1⟩ : ∃ wb1 : World, wb1 = w.alloc (.cells #[.int .i64 n, .slice a ls.length c] 65) := ⟨_, rfl⟩
  obtain ⟨wb2, hw2⟩ : ∃ wb2 : World, wb2 = wb1.alloc (.cells #[.int .i64 0, .slice none 0 0] 65) := ⟨_, rfl⟩
  obtain ⟨wb3, hw3⟩ : ∃ wb3 : World, wb3 = wb2.alloc (.cells #[] 100) := ⟨_, rfl⟩
  obtain ⟨wb4, hw4⟩ : ∃ wb4 : World, wb4 = wb3.alloc (.cells #[.int .i64 n, .slice (some ⟨w.heap.size + 1 + 1, 0, none⟩) 0 0] 65) := ⟨_, rfl⟩
  have z1 : wb1.heap.size = w.heap.size + 1 := by rw [hw1]; simp
  have z2 : wb2.heap.size = w.heap.size + 2 := by rw [hw2]; simp; omega
  have z3 : wb3.heap.size = w.heap.size + 3 := by rw [hw3]; simp; omega
  have z4 : wb4.heap.size = w.heap.size + 4 := by rw [hw4]; simp; omega
  have x0_0 := (by rw [hw4]; exact cell_old _ (by rw [hw3]; exact cell_old _ (by rw [hw2]; exact cell_old _ (by rw [hw1]; exact cell_new _ _ _ rfl rfl : wb1.cell? ⟨w.heap.size, 0, none⟩ = some (.int .i64 n)) : wb2.cell? ⟨w.heap.size, 0, none⟩ = some (.int .i64 n)) : wb3.cell? ⟨w.heap.size, 0, none⟩ = some (.int .i64 n)) : wb4.cell? ⟨w.heap.size, 0, none⟩ = some (.int .i64 n))
  have x0_1 := (by rw [hw4]; exact cell_old _ (by rw [hw3]; exact cell_old _ (by rw [hw2]; exact cell_old _ (by rw [hw1]; exact cell_new _ _ _ rfl rfl : wb1.cell? ⟨w.heap.size, 1, none⟩ = some (.slice a ls.length c)) : wb2.cell? ⟨w.heap.size, 1, none⟩ = some (.slice a ls.length c)) : wb3.cell? ⟨w.heap.size, 1, none⟩ = some (.slice a ls.length c)) : wb4.cell? ⟨w.heap.size, 1, none⟩ = some (.slice a ls.length c))
  have x1_0 := (by rw [hw4]; exact cell_old _ (by rw [hw3]; exact cell_old _ (by rw [hw2]; exact cell_new _ _ _ z1.symm rfl : wb2.cell? ⟨w.heap.size + 1, 0, none⟩ = some (.int .i64 0)) : wb3.cell? ⟨w.heap.size + 1, 0, none⟩ = some (.int .i64 0)) : wb4.cell? ⟨w.heap.size + 1, 0, none⟩ = some (.int .i64 0))
  have x1_1 := (by rw [hw4]; exact cell_old _ (by rw [hw3]; exact cell_old _ (by rw [hw2]; exact cell_new _ _ _ z1.symm rfl : wb2.cell? ⟨w.heap.size + 1, 1, none⟩ = some (.slice none 0 0)) : wb3.cell? ⟨w.heap.size + 1, 1, none⟩ = some (.slice none 0 0)) : wb4.cell? ⟨w.heap.size + 1, 1, none⟩ = some (.slice none 0 0))
  have x3_0 := (by rw [hw4]; exact cell_new _ _ _ z3.symm rfl : wb4.cell? ⟨w.heap.size + 3, 0, none⟩ = some (.int .i64 n))
  have x3_1 := (by rw [hw4]; exact cell_new _ _ _ z3.symm rfl : wb4.cell? ⟨w.heap.size + 3, 1, none⟩ = some (.slice (some ⟨w.heap.size + 1 + 1, 0, none⟩) 0 0))
  have HB0 := Lib.hid (show Below w.heap.size w wb4 by rw [hw4]; exact (show Below w.heap.size w wb3 by rw [hw3]; exact (show Below w.heap.size w wb2 by rw [hw2]; exact (show Below w.heap.size w wb1 by rw [hw1]; exact (Below.refl w.heap.size w).alloc (Nat.le_refl _) _).alloc (by omega) _).alloc (by omega) _).alloc (by omega) _)
  have s4 : w.heap.size + 4 ≤ wb4.heap.size := by omega
  have f1_0 := (by rw [hw4]; exact fro_below (below_alloc _ _) (by rw [hw3]; exact fro_below (below_alloc _ _) (by rw [hw2]; exact fro_new _ _ _ z1.symm : wb2.frozen? ⟨w.heap.size + 1, 0, none⟩ = false) (by omega) : wb3.frozen? ⟨w.heap.size + 1, 0, none⟩ = false) (by omega) : wb4.frozen? ⟨w.heap.size + 1, 0, none⟩ = false)
  have f1_1 := (by rw [hw4]; exact fro_below (below_alloc _ _) (by rw [hw3]; exact fro_below (below_alloc _ _) (by rw [hw2]; exact fro_new _ _ _ z1.symm : wb2.frozen? ⟨w.heap.size + 1, 1, none⟩ = false) (by omega) : wb3.frozen? ⟨w.heap.size + 1, 1, none⟩ = false) (by omega) : wb4.frozen? ⟨w.heap.size + 1, 1, none⟩ = false)
  have f3_0 := (by rw [hw4]; exact fro_new _ _ _ z3.symm : wb4.frozen? ⟨w.heap.size + 3, 0, none⟩ = false)
  have f3_1 := (by rw [hw4]; exact fro_new _ _ _ z3.symm : wb4.frozen? ⟨w.heap.size + 3, 1, none⟩ = false)
  have HZ4 := Lib.hid z4
  clear z1 z2 z3 z4
  have HE4 := Lib.hid (show wb4.ownsRow (w.heap.size + 2) 100 1 (.slice (some ⟨w.heap.size + 1 + 1, 0, none⟩) 0 0) 0 [] from by
    have z2 : wb2.heap.size = w.heap.size + 1 + 1 := by rw [hw2, hw1]; simp
    have h9 := World.ownsRow_made (base := w.heap.size + 2) (e := 100) (size := 1) wb2 #[] 0 (by omega) (by unfold maxLen; omega) rfl
    rw [z2, ← hw3] at h9
    rw [hw4]
    exact ownsRow_block h9 (fun g hg => Below.heap_alloc _ _ _ (h9.lt g hg).2))
  go_wp2_with fail
  rw [← hw1, ← hw2, ← hw3, ← hw4]
  clear hw1 hw2 hw3 hw4
  obtain ⟨B, hB⟩ : ∃ B, w.heap.size + 1 + 1 + 1 = B := ⟨_, rfl⟩
  have hB1 : w.heap.size + 3 ≤ B := by omega
  have hB2 : B < wb4.heap.size := by omega
  have c40 : wb4.cell? ⟨B, 0, none⟩ = some (.int .i64 n) := by rw [← hB]; exact x3_0
  have c41 : wb4.cell? ⟨B, 1, none⟩ = some (.slice (some ⟨w.heap.size + 1 + 1, 0, none⟩) 0 0) := by rw [← hB]; exact x3_1
  have f41 : wb4.frozen? ⟨B, 1, none⟩ = false := by rw [← hB]; exact f3_1
  have HO4 := Lib.hid (show OutL (w.heap.size + 2) B wb4.heap.size wb4 (.slice (some ⟨w.heap.size + 1 + 1, 0, none⟩) 0 0) [] [] [] from ⟨HE4.out, fun g e => by (obtain rfl : w.heap.size + 1 + 1 = g := by simpa [Value.ownBlock] using e); exact ⟨by omega, by omega⟩, LaysOf.nil _ _ _⟩)
  have HX4 := Lib.hid (show wb4.cell? ⟨w.heap.size, 1, none⟩ = some (.slice a ls.length c) ∧ wb4.cell? ⟨w.heap.size + 1, 0, none⟩ = some (.int .i64 0) ∧ wb4.cell? ⟨w.heap.size + 1, 1, none⟩ = some (.slice none 0 0) ∧ wb4.frozen? ⟨w.heap.size + 1, 0, none⟩ = false ∧ wb4.frozen? ⟨w.heap.size + 1, 1, none⟩ = false from ⟨x0_1, x1_0, x1_1, f1_0, f1_1⟩)
  rw [hB]
  clear hB x3_0 x3_1 f3_0 f3_1 x0_0 x0_1 x1_0 x1_1 f1_0 f1_1 HE4
  go_loopw [4] (fun i wr => ∃ (k : Nat) (v : Value) (vs : List Value) (css : List (List Value)), k ≤ ls.length ∧ i = .int .i64 k ∧ Hid (OutL (w.heap.size + 2) B wr.heap.size wr v vs css (ls.take k)) ∧ Hid (wr.cell? ⟨B, 0, none⟩ = some (.int .i64 n) ∧ wr.cell? ⟨B, 1, none⟩ = some v ∧ wr.frozen? ⟨B, 1, none⟩ = false) ∧ Hid (wr.cell? ⟨w.heap.size, 1, none⟩ = some (.slice a ls.length c) ∧ wr.cell? ⟨w.heap.size + 1, 0, none⟩ = some (.int .i64 0) ∧ wr.cell? ⟨w.heap.size + 1, 1, none⟩ = some (.slice none 0 0) ∧ wr.frozen? ⟨w.heap.size + 1, 0, none⟩ = false ∧ wr.frozen? ⟨w.heap.size + 1, 1, none⟩ = false) ∧ Hid (Below w.heap.size w wr) ∧ B < wr.heap.size) (fun i _ => ls.length - (intOf i).toNat)
  case atStart => exact ⟨0, _, _, _, Nat.zero_le _, rfl, HO4, Lib.hid ⟨c40, c41, f41⟩, HX4, HB0, hB2⟩
  case round =>
    obtain ⟨k, v, vs, css, hk9, rfl, HOo, HCe, HXe, HBo, hszo⟩ := hrel
    clear c40 c41 f41 HO4 HX4 hB2
    have yy := HXe.out.1
    have cc0 := HCe.out.2.1
    have ff0 := HCe.out.2.2
    by_cases hlt : k < ls.length
    · obtain ⟨bl, off, p9, cq, rfl, hbl, hc, _, hlay⟩ := (Hhr.out.below HBo.out).at hlt
      obtain ⟨l, hll⟩ : ∃ l, ls.getD k [] = l := ⟨_, rfl⟩
      have hlm := Hhm.out (ls.getD k []) (by rw [List.getD_eq_getElem?_getD, List.getElem?_eq_getElem hlt]; exact List.getElem_mem hlt)
      have HLS := Lib.hid (take_snocL ls k hlt)
      rw [hll] at hc hlay HLS hlm
      have HLy := Lib.hid hlay
      have hl9 := hlm.1
      have HLM := Lib.hid hlm.2
      clear hll hlay hlm Hhr
      generalize hwq : wr = wq at *
      clear hwq wr
      have hown0 := (emptyJ wq).widen (Nat.le_refl _) (show wq.heap.size + 1 ≤ (wq.alloc (.cells #[] 45)).heap.size by simp)
      have hb0 := below_alloc wq (.cells #[] 45)
      go_wp2_with fail
      go_loopw [5, 6] (fun v i wr => ∃ (j : Nat) (cs : List Value), j ≤ l.length ∧ i = .int .i64 j ∧ OwnK wq.heap.size wr.heap.size wr v (l.take j) cs ∧ Below wq.heap.size wq wr) (fun _ i _ => l.length - (intOf i).toNat)
      case atStart => exact ⟨0, [], Nat.zero_le _, rfl, hown0, hb0⟩
      case round =>
        obtain ⟨j, cs, hj9, rfl, hownj, hbelj⟩ := hrel
        have HO := Lib.hid hownj
        have HBj := Lib.hid hbelj
        have hszj := hbelj.size
        have y1 := cell_below hbelj yy (by omega)
        replace hc := cell_below hbelj hc hbl
        clear hown0 hb0 hownj hbelj yy
        by_cases hltj : j < l.length
        · obtain ⟨g, go, pj, pqj, hab, hgl, kj, dj, _, hrowj⟩ := (HLy.out.below HBj.out).at hltj
          have hgq : g < wq.heap.size := by
            obtain ⟨g2, go2, _, _, hab2, hgl2, _⟩ := HLy.out.at hltj
            rw [hab] at hab2
            simp at hab2
            omega
          subst hab
          have hws := HLM.out (l.getD j ([], 0)) (by rw [List.getD_eq_getElem?_getD, List.getElem?_eq_getElem hltj]; exact List.getElem_mem hltj)
          have HTK := Lib.hid (show l.take (j + 1) = l.take j ++ [((l.getD j ([], 0)).1, (l.getD j ([], 0)).2)] from take_snocJ l j hltj)
          have HTJ := Lib.hid (take_len l j (by omega))
          have HWj := Lib.hid hrowj
          have hbll : bl < wr.heap.size := by omega
          have hww : w.heap.size < wq.heap.size := by omega
          have i1 : (0 : Int) ≤ (j : Int) := by omega
          have i2 : (j : Int) < (l.length : Int) := by omega
          have i4 : (0 : Int) ≤ (k : Int) := by omega
          have i5 : (k : Int) < (ls.length : Int) := by omega
          clear hrowj
          generalize (l.getD j ([], 0)).1 = wsj at *
          generalize (l.getD j ([], 0)).2 = bj at *
          go_wp2_with fail
          refine wp_region_noPanic ?_
          refine wp_region_held_drew (S := fun w' => w'.cell? ⟨w.heap.size, 1, none⟩ = some (.slice (some ⟨bl, off, none⟩) ls.length c) ∧ w'.cell? ⟨bl, off + k, none⟩ = some (.slice (some ⟨g, go, none⟩) l.length cq) ∧ w'.cell? ⟨g, go + j * 2, none⟩ = some (.slice pj wsj.length pqj) ∧ w'.cell? ⟨g, go + j * 2 + 1, none⟩ = some (.int .i64 bj)) (by kernel_rfl) ?_ (fun hHeld => ?_)
          · exact ⟨y1, hc, kj, dj⟩
          refine wpAnyH_take (i := 0) (v := ?_) rfl (by kernel_rfl) (by kernel_rfl) (by kernel_rfl) (fun _ _ _ h => h) (Or.inl ⟨by rfl, ?_⟩) (by assumption) ?_
          rotate_left
          · intro w9 hSw; (try dsimp only at hSw); go_simp; try with_reducible rfl
          try simp only [List.getElem_toArray, List.getElem_cons_succ, List.getElem_cons_zero, Act.put, List.setIfInBounds_toArray, List.set_cons_zero, List.set_cons_succ]
          refine wpAnyH_take (i := 1) (v := ?_) rfl (by kernel_rfl) (by kernel_rfl) (by kernel_rfl) (fun _ _ _ h => h) (Or.inl ⟨by rfl, ?_⟩) (by assumption) ?_
          rotate_left
          · intro w9 hSw; (try dsimp only at hSw); go_simp; try with_reducible rfl
          try simp only [List.getElem_toArray, List.getElem_cons_succ, List.getElem_cons_zero, Act.put, List.setIfInBounds_toArray, List.set_cons_zero, List.set_cons_succ]
          refine wpAnyH_take (i := 2) (v := ?_) rfl (by kernel_rfl) (by kernel_rfl) (by kernel_rfl) (fun _ _ _ h => h) (Or.inl ⟨by rfl, ?_⟩) (by assumption) ?_
          rotate_left
          · intro w9 hSw; (try dsimp only at hSw); go_simp; try with_reducible rfl
          try simp only [List.getElem_toArray, List.getElem_cons_succ, List.getElem_cons_zero, Act.put, List.setIfInBounds_toArray, List.set_cons_zero, List.set_cons_succ]
          refine wpAnyH_take (i := 3) (v := ?_) rfl (by kernel_rfl) (by kernel_rfl) (by kernel_rfl) (fun _ _ _ h => h) (Or.inl ⟨by rfl, ?_⟩) (by assumption) ?_
          rotate_left
          · intro w9 hSw; (try dsimp only at hSw); go_simp; try with_reducible rfl
          try simp only [List.getElem_toArray, List.getElem_cons_succ, List.getElem_cons_zero, Act.put, List.setIfInBounds_toArray, List.set_cons_zero, List.set_cons_succ]
          refine wpAnyH_take (i := 4) (v := ?_) rfl (by kernel_rfl) (by kernel_rfl) (by kernel_rfl) (fun _ _ _ h => h) (Or.inl ⟨by rfl, ?_⟩) (by assumption) ?_
          rotate_left
          · intro w9 hSw; (try dsimp only at hSw); go_simp; try with_reducible rfl
          try simp only [List.getElem_toArray, List.getElem_cons_succ, List.getElem_cons_zero, Act.put, List.setIfInBounds_toArray, List.set_cons_zero, List.set_cons_succ]
          refine wpAnyH_take (i := 5) (v := ?_) rfl (by kernel_rfl) (by kernel_rfl) (by kernel_rfl) (fun _ _ _ h => h) (Or.inl ⟨by rfl, ?_⟩) (by assumption) ?_
          rotate_left
          · intro w9 hSw; (try dsimp only at hSw); go_simp; try with_reducible rfl
          try simp only [List.getElem_toArray, List.getElem_cons_succ, List.getElem_cons_zero, Act.put, List.setIfInBounds_toArray, List.set_cons_zero, List.set_cons_succ]
          refine wpAnyH_take (i := 6) (v := ?_) rfl (by kernel_rfl) (by kernel_rfl) (by kernel_rfl) (fun _ _ _ h => h) (Or.inl ⟨by rfl, ?_⟩) (by assumption) ?_
          rotate_left
          · intro w9 hSw; (try dsimp only at hSw); go_simp; try with_reducible rfl
          try simp only [List.getElem_toArray, List.getElem_cons_succ, List.getElem_cons_zero, Act.put, List.setIfInBounds_toArray, List.set_cons_zero, List.set_cons_succ]
          refine wpAnyH_take (i := 7) (v := ?_) rfl (by kernel_rfl) (by kernel_rfl) (by kernel_rfl) (fun _ _ _ h => h) (Or.inl ⟨by rfl, ?_⟩) (by assumption) ?_
          rotate_left
          · intro w9 hSw; (try dsimp only at hSw); go_simp; try with_reducible rfl
          try simp only [List.getElem_toArray, List.getElem_cons_succ, List.getElem_cons_zero, Act.put, List.setIfInBounds_toArray, List.set_cons_zero, List.set_cons_succ]
          refine wpAnyH_take (i := 8) (v := ?_) rfl (by kernel_rfl) (by kernel_rfl) (by kernel_rfl) (fun _ _ _ h => h) (Or.inl ⟨by rfl, ?_⟩) (by assumption) ?_
          rotate_left
          · intro w9 hSw; (try dsimp only at hSw); go_simp; try with_reducible rfl
          try simp only [List.getElem_toArray, List.getElem_cons_succ, List.getElem_cons_zero, Act.put, List.setIfInBounds_toArray, List.set_cons_zero, List.set_cons_succ]
          refine wpAnyH_take (i := 9) (v := ?_) rfl (by kernel_rfl) (by kernel_rfl) (by kernel_rfl) (fun _ _ _ h => h) (Or.inl ⟨by rfl, ?_⟩) (by assumption) ?_
          rotate_left
          · intro w9 hSw; (try dsimp only at hSw); go_simp; try with_reducible rfl
          try simp only [List.getElem_toArray, List.getElem_cons_succ, List.getElem_cons_zero, Act.put, List.setIfInBounds_toArray, List.set_cons_zero, List.set_cons_succ]
          refine wpAnyH_take (i := 11) (v := ?_) rfl (by kernel_rfl) (by kernel_rfl) (by kernel_rfl) (fun _ _ _ h => h) (Or.inl ⟨by rfl, ?_⟩) (by assumption) ?_
          rotate_left
          · intro w9 hSw; (try dsimp only at hSw); go_simp; try with_reducible rfl
          try simp only [List.getElem_toArray, List.getElem_cons_succ, List.getElem_cons_zero, Act.put, List.setIfInBounds_toArray, List.set_cons_zero, List.set_cons_succ]
          refine wpAnyH_take (i := 12) (v := ?_) rfl (by kernel_rfl) (by kernel_rfl) (by kernel_rfl) (fun _ _ _ h => h) (Or.inl ⟨by rfl, ?_⟩) (by assumption) ?_
          rotate_left
          · intro w9 hSw; (try dsimp only at hSw); go_simp; try with_reducible rfl
          try simp only [List.getElem_toArray, List.getElem_cons_succ, List.getElem_cons_zero, Act.put, List.setIfInBounds_toArray, List.set_cons_zero, List.set_cons_succ]
          refine wpAnyH_take (i := 13) (v := ?_) rfl (by kernel_rfl) (by kernel_rfl) (by kernel_rfl) (fun _ _ _ h => h) (Or.inl ⟨by rfl, ?_⟩) (by assumption) ?_
          rotate_left
          · intro w9 hSw; (try dsimp only at hSw); go_simp; try with_reducible rfl
          try simp only [List.getElem_toArray, List.getElem_cons_succ, List.getElem_cons_zero, Act.put, List.setIfInBounds_toArray, List.set_cons_zero, List.set_cons_succ]
          refine wpAnyH_take (i := 14) (v := ?_) rfl (by kernel_rfl) (by kernel_rfl) (by kernel_rfl) (fun _ _ _ h => h) (Or.inl ⟨by rfl, ?_⟩) (by assumption) ?_
          rotate_left
          · intro w9 hSw; (try dsimp only at hSw); go_simp; try with_reducible rfl
          try simp only [List.getElem_toArray, List.getElem_cons_succ, List.getElem_cons_zero, Act.put, List.setIfInBounds_toArray, List.set_cons_zero, List.set_cons_succ]
          refine wpAnyH_take (i := 15) (v := ?_) rfl (by kernel_rfl) (by kernel_rfl) (by kernel_rfl) (fun _ _ _ h => h) (Or.inl ⟨by rfl, ?_⟩) (by assumption) ?_
          rotate_left
          · intro w9 hSw; (try dsimp only at hSw); go_simp; try with_reducible rfl
          try simp only [List.getElem_toArray, List.getElem_cons_succ, List.getElem_cons_zero, Act.put, List.setIfInBounds_toArray, List.set_cons_zero, List.set_cons_succ]
          refine wpAnyH_take (i := 16) (v := ?_) rfl (by kernel_rfl) (by kernel_rfl) (by kernel_rfl) (fun _ _ _ h => h) (Or.inl ⟨by rfl, ?_⟩) (by assumption) ?_
          rotate_left
          · intro w9 hSw; (try dsimp only at hSw); go_simp; try with_reducible rfl
          try simp only [List.getElem_toArray, List.getElem_cons_succ, List.getElem_cons_zero, Act.put, List.setIfInBounds_toArray, List.set_cons_zero, List.set_cons_succ]
          refine wpAnyH_take (i := 17) (v := ?_) rfl (by kernel_rfl) (by kernel_rfl) (by kernel_rfl) (fun _ _ _ h => h) (Or.inl ⟨by rfl, ?_⟩) (by assumption) ?_
          rotate_left
          · intro w9 hSw; (try dsimp only at hSw); go_simp; try with_reducible rfl
          try simp only [List.getElem_toArray, List.getElem_cons_succ, List.getElem_cons_zero, Act.put, List.setIfInBounds_toArray, List.set_cons_zero, List.set_cons_succ]
          refine wpAnyH_take (i := 18) (v := ?_) rfl (by kernel_rfl) (by kernel_rfl) (by kernel_rfl) (fun _ _ _ h => h) (Or.inl ⟨by rfl, ?_⟩) (by assumption) ?_
          rotate_left
          · intro w9 hSw; (try dsimp only at hSw); go_simp; try with_reducible rfl
          try simp only [List.getElem_toArray, List.getElem_cons_succ, List.getElem_cons_zero, Act.put, List.setIfInBounds_toArray, List.set_cons_zero, List.set_cons_succ]
          refine wpAnyH_take (i := 19) (v := ?_) rfl (by kernel_rfl) (by kernel_rfl) (by kernel_rfl) (fun _ _ _ h => h) (Or.inl ⟨by rfl, ?_⟩) (by assumption) ?_
          rotate_left
          · intro w9 hSw; (try dsimp only at hSw); go_simp; try with_reducible rfl
          try simp only [List.getElem_toArray, List.getElem_cons_succ, List.getElem_cons_zero, Act.put, List.setIfInBounds_toArray, List.set_cons_zero, List.set_cons_succ]
          refine wpAnyH_ready (rs := [10]) (by kernel_rfl) (by simp) ?_
          refine AllReadyH.cons rfl (fun K hK => ?_) AllReadyH.nil
          clear hHeld
          go_simp
          refine (spec_owns pj wsj pqj wr.drew (HWj.out.below (Below.refl _ _).drew) hws).mono ?_
          rintro e v8 ⟨vw, rfl, hov, hb8⟩
          obtain ⟨pw, qw, rfl, _, _, _⟩ := hov.slice
          have HC8 := Lib.hid ((Below.refl wr.heap.size wr).drew.trans hb8)
          have hs8 := HC8.out.size
          have HOV := Lib.hid (show OwnI wr.heap.size v8.heap.size v8 (.slice pw wsj.length qw) wsj from hov)
          have m0 := cell_below HC8.out y1 (by omega)
          have m1 := cell_below HC8.out hc (by omega)
          have m2 := cell_below HC8.out kj (by omega)
          have m3 := cell_below HC8.out dj (by omega)
          clear hb8 hov
          refine hK.out _ _ ?_ (fun hHeld => ?_)
          · exact ⟨m0, m1, m2, m3⟩
          clear hK K
          try simp only [List.getElem_toArray, List.getElem_cons_succ, List.getElem_cons_zero, Act.put, List.setIfInBounds_toArray, List.set_cons_zero, List.set_cons_succ]
          refine wpAnyH_take (i := 20) (v := ?_) rfl (by kernel_rfl) (by kernel_rfl) (by kernel_rfl) (fun _ _ _ h => h) (Or.inl ⟨by rfl, ?_⟩) (by assumption) ?_
          rotate_left
          · intro w9 hSw; (try dsimp only at hSw); go_simp; try with_reducible rfl
          try simp only [List.getElem_toArray, List.getElem_cons_succ, List.getElem_cons_zero, Act.put, List.setIfInBounds_toArray, List.set_cons_zero, List.set_cons_succ]
          refine wpAnyH_ready (rs := [21]) (by kernel_rfl) (by simp) ?_
          refine AllReadyH.cons rfl (fun K hK => ?_) AllReadyH.nil
          clear hHeld
          go_simp
          have HB9 := Lib.hid (below_alloc v8 (.cells #[.slice pw wsj.length qw, .int .i64 bj] 45))
          have z0 := cell_two_new v8 (.slice pw wsj.length qw) (.int .i64 bj) 45
          have hs9 := size_alloc' v8 (.cells #[.slice pw wsj.length qw, .int .i64 bj] 45)
          have HOV9 := Lib.hid ((HOV.out.below HB9.out).mono (Nat.le_refl _) (show v8.heap.size ≤ (v8.alloc (.cells #[.slice pw wsj.length qw, .int .i64 bj] 45)).heap.size by omega))
          have q0 := cell_below HB9.out m0 (by omega)
          have q1 := cell_below HB9.out m1 (by omega)
          have q2 := cell_below HB9.out m2 (by omega)
          have q3 := cell_below HB9.out m3 (by omega)
          have HZ0 := Lib.hid z0
          generalize hw9 : v8.alloc (.cells #[.slice pw wsj.length qw, .int .i64 bj] 45) = v9 at *
          clear hw9 z0 HOV
          refine hK.out _ _ ?_ (fun hHeld => ?_)
          · exact ⟨q0, q1, q2, q3⟩
          clear hK K
          try simp only [List.getElem_toArray, List.getElem_cons_succ, List.getElem_cons_zero, Act.put, List.setIfInBounds_toArray, List.set_cons_zero, List.set_cons_succ]
          refine wpAnyH_ready (rs := [22]) (by kernel_rfl) (by simp) ?_
          refine AllReadyH.cons rfl (fun K hK => ?_) AllReadyH.nil
          clear hHeld
          have HX9 := Lib.hid (HC8.out.trans (HB9.out.mono hs8))
          have hvb := fun g (e : u5.ownBlock = some g) => HO.out.1.lt g e
          have hro := ownsRow_block (w' := v9) HO.out.1 (fun g hg => HX9.out.block g (hvb g hg).2)
          rw [HTJ.out] at hro
          refine step_append_any (by rfl) _ _ 100 (by rfl) wq.heap.size 45 i0 (.agg #[.slice none 0 0, .int .i64 0]) 2 32 Try.underlying100 hi hz0 hz1 hz2 (by rfl) (by decide) u5 j (flatJ cs (l.take j)) (by rfl) hro ⟨v8.heap.size, 0, none⟩ 1 1 [.slice pw wsj.length qw, .int .i64 bj] (by rfl) (by rfl) HZ0.out (by simp [Value.oneCell']) (by unfold maxLen; omega) (by omega) (by omega) ?_
          intro un4 v4 hown4 hgrow4 hat4
          have HPU := Lib.hid (OwnK.push (b := bj) HO.out HX9.out hszj HOV9.out (by rw [HTJ.out]; exact hown4) hgrow4)
          have HBi := Lib.hid (show Below wq.heap.size wq v4 from (HBj.out.trans (HX9.out.mono hszj)).grown hgrow4 (by omega) (fun g e => (hvb g e).1))
          have hn4 : ∀ g, g < wq.heap.size → v4.heap[g]? = v9.heap[g]? := fun g h1 => hgrow4.block g (by omega) (fun e => by have h2 := hvb g e.symm; omega)
          have r0 := (World.cell?_of_block (hn4 w.heap.size (by omega))).trans q0
          have r1 := (World.cell?_of_block (hn4 bl (by omega))).trans q1
          have r2 := (World.cell?_of_block (hn4 g (by omega))).trans q2
          have r3 := (World.cell?_of_block (hn4 g (by omega))).trans q3
          clear hown4 hgrow4 hat4 hvb hro hn4
          refine hK.out _ _ ?_ (fun hHeld => ?_)
          · exact ⟨r0, r1, r2, r3⟩
          clear hK K
          try simp only [List.getElem_toArray, List.getElem_cons_succ, List.getElem_cons_zero, Act.put, List.setIfInBounds_toArray, List.set_cons_zero, List.set_cons_succ]
          refine wpAnyH_take (i := 23) (v := ?_) rfl (by kernel_rfl) (by kernel_rfl) (by kernel_rfl) (fun _ _ _ h => h) (Or.inl ⟨by rfl, ?_⟩) (by assumption) ?_
          rotate_left
          · intro w9 hSw; (try dsimp only at hSw); go_simp; try with_reducible rfl
          try simp only [List.getElem_toArray, List.getElem_cons_succ, List.getElem_cons_zero, Act.put, List.setIfInBounds_toArray, List.set_cons_zero, List.set_cons_succ]
          refine wpAnyH_done (by kernel_rfl) ?_ _
          refine NoPanic.normal ?_
          clear hHeld r0 r1 r2 r3 m0 m1 m2 m3 q0 q1 q2 q3
          go_wp2_with fail
          go_roundw
          case rel => exact ⟨j + 1, _, by omega, by go_num, by rw [HTK.out]; exact HPU.out, HBi.out⟩
          case measure => simp [intOf]; omega
        · obtain rfl : j = l.length := by omega
          have hoj := HO.out
          rw [List.take_length] at hoj
          obtain ⟨pn, qn, hvn, _, _, _⟩ := (show OwnJ wq.heap.size wr.heap.size wr u5 l from ⟨cs, hoj⟩).slice
          subst hvn
          have HOI := Lib.hid hoj
          have HOo2 := Lib.hid (HOo.out.below HBj.out)
          have HBo2 := Lib.hid (HBo.out.trans (HBj.out.mono (by have := HBo.out.size; omega)))
          have HRl := Lib.hid (take_len ls k (by omega))
          replace cc0 := cell_below HBj.out cc0 (by omega)
          have cb0 := cell_below HBj.out HCe.out.1 (by omega)
          replace ff0 := fro_below HBj.out ff0 (by omega)
          have X0 := cell_below HBj.out HXe.out.1 (by omega)
          have X1 := cell_below HBj.out HXe.out.2.1 (by omega)
          have X2 := cell_below HBj.out HXe.out.2.2.1 (by omega)
          have X3 := fro_below HBj.out HXe.out.2.2.2.1 (by omega)
          have X4 := fro_below HBj.out HXe.out.2.2.2.2 (by omega)
          have hvl := fun g (e : v.ownBlock = some g) => (HOo2.out.1.lt g e).1
          have HVL := Lib.hid hvl
          clear hoj HO hvl
          generalize ls.take k = RR at *
          go_wp2_with (at_builtin; refine wpList_append_lies _ rfl _ _ 63 rfl (w.heap.size + 2) 100 j0 (.slice none 0 0) 1 24 Try.underlying63 hj0 hjz0 hjz1 hjz2 rfl (by decide) v RR.length vs rfl (HOo2.out.1.alloc _) ⟨wr.heap.size, 0, none⟩ 1 1 [.slice pn l.length qn] rfl rfl (cell_one_new _ _ _) (by simp [Value.oneCell']) (by omega) (by have := HRl.out; unfold maxLen; omega) (by have := HRl.out; omega) (by simp; omega) (wr.heap.size + 1) (by simp) ?_; intro gg cap w5 hown5 hgrow5 hat5 hlt5; refine Hid.out ?_)
          refine Lib.hid ?_
          have nB := fun e => (HOo2.out.2.1 B (Eq.symm e)).1 rfl
          have n0 : some w.heap.size ≠ v.ownBlock := fun e => by have := HVL.out _ e.symm; omega
          have n1 : some (w.heap.size + 1) ≠ v.ownBlock := fun e => by have := HVL.out _ e.symm; omega
          have t0 := hgrow5.cell (cell_old _ cc0) nB
          have t1 := hgrow5.cell (cell_old _ cb0) nB
          have t2 := (hgrow5.frozen_far ⟨B, 1, none⟩ (by simp; omega) nB).trans (fro_below (below_alloc _ _) ff0 (by omega))
          have X0' := hgrow5.cell (cell_old _ X0) n0
          have X1' := hgrow5.cell (cell_old _ X1) n1
          have X2' := hgrow5.cell (cell_old _ X2) n1
          have X3' := (hgrow5.frozen_far ⟨w.heap.size + 1, 0, none⟩ (by simp; omega) n1).trans (fro_below (below_alloc _ _) X3 (by omega))
          have X4' := (hgrow5.frozen_far ⟨w.heap.size + 1, 1, none⟩ (by simp; omega) n1).trans (fro_below (below_alloc _ _) X4 (by omega))
          have HX5 := Lib.hid (And.intro X0' (And.intro X1' (And.intro X2' (And.intro X3' X4'))))
          have HO5 := Lib.hid (OutL.row HOo2.out HOI.out hszj (by omega) hgrow5 hown5 hat5 hlt5)
          have HB5 := Lib.hid ((HBo2.out.alloc (by have := HBo2.out.size; omega) (.cells #[.slice pn l.length qn] 100)).grown hgrow5 (by simp; omega) (fun g e => by have := HVL.out g e; omega))
          have s5 : B < w5.heap.size := by have := hgrow5.size; simp at this; omega
          clear hown5 hgrow5 hat5 hlt5 nB n0 n1 hc y1 X0 X1 X2 X3 X4 X0' X1' X2' X3' X4' cc0 cb0 ff0
          go_wp2_with fail
          go_roundw
          case rel => exact ⟨k + 1, _, _, _, by omega, by go_num, by rw [HLS.out]; exact Lib.hid (by rw [size_set]; exact HO5.out.set 1 _), Lib.hid ⟨(World.cell?_setCell_other _ _ _ _ (by simp)).trans t1, World.cell?_setCell_same _ _ _ t0, by rw [World.frozen?_setCell]; exact t2⟩, Lib.hid ⟨cell_set HX5.out.1 (by simp; omega) _, cell_set HX5.out.2.1 (by simp; omega) _, cell_set HX5.out.2.2.1 (by simp; omega) _, fro_set HX5.out.2.2.2.1 (by simp; omega) _, fro_set HX5.out.2.2.2.2 (by simp; omega) _⟩, Lib.hid (HB5.out.setCell (by show w.heap.size ≤ B; omega) _), by rw [size_set]; exact s5⟩
          case measure => simp [intOf]; omega
    · obtain rfl : k = ls.length := by omega
      have cb0 := HCe.out.1
      have x1_0 := HXe.out.2.1
      have x1_1 := HXe.out.2.2.1
      have f1_0 := HXe.out.2.2.2.1
      have f1_1 := HXe.out.2.2.2.2
      have hol := HOo.out.toL (by omega)
      rw [List.take_length] at hol
      obtain ⟨pv, qv, hvv, _, _, _⟩ := (show OwnL (w.heap.size + 2) wr.heap.size wr v ls from ⟨_, _, hol⟩).slice
      subst hvv
      have HL := Lib.hid hol
      clear HOo HCe HXe hol
      go_wp2_with fail
      refine bodyPost_ret (v := .agg #[.int .i64 n, .slice pv ls.length qv]) (by simp [results, Try.results106, go_sem, x1_0, x1_1]) rfl ⟨pv, qv, vs, css, rfl, ?_, ?_⟩
      · simp only [size_set]; exact OwnLK.mono (OwnLK.set (OwnLK.set HL.out (by simp) _) (by simp) _) (by omega) (Nat.le_refl _)
      · exact (HBo.out.setCell (by simp) _).setCell (by simp) _
end Go.Proofs.Ytkbcofgigfnfaaa.ownnet
