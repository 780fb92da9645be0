/- The walk of slices.Repeat at a list of one number: no condition but its bounds. -/
import Derived.Test.YtkbcofgigfnfaaaIntFns
import Derived.Test.YtkbcofgigfnfaaaOwnG
import Derived.Test.YtkbcofgigfnfaaaOwn1
import Derived.Test.YtkbcofgigfnfaaaShelf
import Derived.Laws.CopyOwn
import Derived.Deep.RegionLaw
import Derived.Deep.RegionHeld3
import Derived.Deep.DrawnRows
namespace Go.Proofs.Ytkbcofgigfnfaaa.repz
open Go.RowKit own
set_option linter.unusedVariables false
set_option linter.unusedSimpArgs false

theorem infoInt : (Try.prog.info? 3).map (fun i => (i.zero, i.size, i.bytes)) = some (some (.int .i64 0), 1, 8) := by kernel_rfl
/-- m times a number, then zeros. -/
def fill (zz : Int) (n m : Nat) : List Value := List.replicate m (.int .i64 zz) ++ List.replicate (n - m) (.int .i64 0)
theorem fill_length (zz : Int) (n m : Nat) (h : m ≤ n) : (fill zz n m).length = n := by simp [fill]; omega
theorem fill_splice (zz : Int) (n m k : Nat) (h : m + k ≤ n) : splice (fill zz n m) m (List.replicate k (.int .i64 zz)) = fill zz n (m + k) := by
  unfold splice fill
  rw [List.take_left' (by simp), List.drop_append, List.drop_of_length_le (by simp), List.nil_append, List.drop_replicate, ← List.append_assoc, List.replicate_append_replicate]
  congr 2
  simp; omega

set_option maxRecDepth 100000 in
set_option maxHeartbeats 4000000 in
theorem reps (zz : Int) (b off c : Nat) (n : Nat) (w : World) (hc : w.cell? ⟨b, off, none⟩ = some (.int .i64 zz)) (h1 : 1 ≤ n) (h8 : n ≤ 1000) :
    Calls Try.prog 130 #[.slice (some ⟨b, off, none⟩) 1 c, .int .i64 n] w (intfns.Made (List.replicate n zz) w) := by
  obtain ⟨i0, hi, hz0, hz1, hz2⟩ := info_parts infoInt
  have hbl := World.block_lt_of_cell? w _ hc
  have HMul := Lib.hid (show Calls Try.prog 144 #[.int .u64 1, .int .u64 (n : Nat)] w fun e w' => e = .returned (.tuple #[.int .u64 0, .int .u64 (n : Nat)]) ∧ w = w' from by
    have := Try.bits_Mul 1 n (by omega) (by omega) w
    rw [Nat.one_mul, Nat.div_eq_of_lt (by omega), Nat.mod_eq_of_lt (by omega)] at this
    exact this.mono fun _ _ h => ⟨h.1, h.2.symm⟩)
  go_enter Try.func130, Try.ntmps130
  go_wp2_with fail
  refine HMul.out.mono ?_
  rintro e w' ⟨rfl, rfl⟩
  go_wp2_with (refine wpList_make_full _ rfl _ _ 23 rfl w.heap.size 3 i0 (.int .i64 0) 1 Try.underlying23 hi hz0 hz1 .i64 .i64 _ _ n rfl rfl rfl rfl (by rw [hz2]; omega) (by unfold maxLen; omega) (Nat.le_refl _) ?_; intro w1 hown1 hgrow1; refine Hid.out ?_)
  refine Lib.hid ?_
  have hb1 : Below w.heap.size w w1 := (Below.refl _ _).grown hgrow1 (Nat.le_refl _) (by simp)
  rw [show (Value.int .i64 0).cells = #[Value.int .i64 0] from rfl, Nat.mul_one, toList_madeCells_one] at hown1
  obtain ⟨g, cap, cur, e, hl, hh, hn', hm, hs', ht⟩ : ∃ g cap cur, Value.slice (some ⟨w.heap.size, 0, none⟩) n n = .slice (some ⟨g, 0, none⟩) n cap ∧ w.heap.size ≤ g ∧ w1.heap[g]? = some (.cells cur 3 (0, 0)) ∧ n ≤ cap ∧ cap ≤ maxLen ∧ cur.size = cap * 1 ∧ cur.toList.take (n * 1) = List.replicate n (.int .i64 0) := by
    rcases hown1.2 with ⟨e, _⟩ | h
    · cases e
    · exact h
  cases e
  have hcur : cur = (fill zz n 0).toArray := by
    apply Array.ext'
    rw [Nat.mul_one, List.take_of_length_le (by simp; omega)] at ht
    simpa [fill] using ht
  subst hcur
  have HH := Lib.hid hh
  have hc1 := cell_below hb1 hc hbl
  have HB1 := Lib.hid hb1
  have HN1 := Lib.hid (show ∀ (j : Nat) (v : Value), [Value.int .i64 zz][j]? = some v → w1.cell? ((⟨b, off, none⟩ : Addr).add j) = some v from fun j v hj => by
    cases j with
    | zero => simp at hj; subst hj; simpa [Addr.add] using hc1
    | succ j => simp at hj)
  clear hh hown1 hgrow1 hb1 ht hs' hm hn'
  go_wp2_with (refine wpList_copy_splice (o := ⟨some 33, _, _, _, _, _⟩) rfl (.tmp 31) (.tmp 32) 23 23 rfl 3 Try.underlying23 (by rw [hi]; simp [hz1]) (some ⟨w.heap.size, 0, none⟩) (some ⟨b, off, none⟩) n n 1 c (by rfl) (by rfl) w.heap.size 0 (fill zz n 0) 3 HH.out [.int .i64 zz] (show 1 = min 1 n by omega) (fun _ => ⟨rfl, _, rfl, HN1.out⟩) (by rw [fill_length zz _ _ (Nat.zero_le _)]; simp; omega) (by simp [Value.oneCell']) w.heap.size w HB1.out (Nat.le_refl _) ?_; intro w2 hg2 hb2; refine Hid.out ?_)
  refine Lib.hid ?_
  rw [show splice (fill zz n 0) 0 [Value.int .i64 zz] = fill zz n 1 from fill_splice zz n 0 1 (by omega)] at hg2
  have HB2 := Lib.hid hb2
  clear hb2
  go_wp2_with fail
  go_loopw [8] (fun i wr => ∃ m : Nat, 1 ≤ m ∧ m ≤ n ∧ i = .int .i64 m ∧ Hid (wr.heap[w.heap.size]? = some (.cells (fill zz n m).toArray 3 (0, 0))) ∧ Below w.heap.size w wr) (fun i _ => n - (intOf i).toNat)
  case atStart => exact ⟨1, Nat.le_refl _, h1, rfl, hg2, HB2.out⟩
  case round =>
    obtain ⟨m, hm1, hm2, rfl, hg, hbel⟩ := hrel
    have HBl := Lib.hid hbel
    clear hg2 hc1 hbel
    by_cases hlt : m < n
    · have i1 : (0 : Int) ≤ (m : Int) := by omega
      have i2 : (m : Int) < (n : Int) := by omega
      have i3 : (m : Int) ≤ (n : Int) := by omega
      have hne : ¬ (n = m) := by omega
      have hk : min m (n - m) ≤ m := Nat.min_le_left _ _
      have hk3 : m + min m (n - m) ≤ n := by have := Nat.min_le_right m (n - m); omega
      have hk1 : 1 ≤ min m (n - m) := Nat.le_min.2 ⟨hm1, by omega⟩
      have hl1' : Nat.min m (n - m) = min m (n - m) := rfl
      generalize min m (n - m) = kk at *
      have hsz : (Try.prog.info? 3).map (·.size) = some 1 := by rw [hi]; simp [hz1]
      have HCS := Lib.hid (show ∀ W : World, W.heap[w.heap.size]? = some (.cells (fill zz n m).toArray 3 (0, 0)) → ∀ (j : Nat) (v : Value), (List.replicate kk (Value.int .i64 zz))[j]? = some v → W.cell? ((⟨w.heap.size, 0, none⟩ : Addr).add j) = some v from fun W hW j v hj => by
        obtain ⟨h7, h8⟩ := List.getElem?_eq_some_iff.1 hj
        rw [List.length_replicate] at h7
        rw [List.getElem_replicate] at h8
        subst h8
        rw [Go.WideShapes.add_plain, Nat.zero_add, cell_of_row W w.heap.size j _ _ _ hW]
        have h9 : j < m := by omega
        simp [fill, List.getElem?_append, List.getElem?_replicate, h9])
      have hl1 : (List.replicate kk (Value.int .i64 zz)).length = Nat.min m (n - m) := by rw [List.length_replicate]; exact hl1'.symm
      have HF1 := Lib.hid (fill_splice zz n m kk (by omega))
      have hl2 : m + (List.replicate kk (Value.int .i64 zz)).length ≤ (fill zz n m).length := by rw [fill_length zz _ _ hm2, List.length_replicate]; omega
      have e1 : IntKind.i64.wrap ((m : Int) + (kk : Int)) = ((m + kk : Nat) : Int) := by rw [IntWalk.i64_in _ (by omega)]; omega
      go_wp2_with fail
      refine wp_region_noPanic ?_
      refine wp_region_held_drew (S := fun _ => True) (by kernel_rfl) ?_ (fun hHeld => ?_)
      · trivial
      refine wpAnyH_take (i := 0) (v := ?_) rfl (by kernel_rfl) (by kernel_rfl) (by kernel_rfl) (fun _ _ _ h => h) (Or.inl ⟨by rfl, ?_⟩) (by assumption) ?_
      rotate_left
      · intro w9 hSw; (try dsimp only at hSw); go_simp; try with_reducible rfl
      try simp only [List.getElem_toArray, List.getElem_cons_succ, List.getElem_cons_zero, Act.put, List.setIfInBounds_toArray, List.set_cons_zero, List.set_cons_succ]
      refine wpAnyH_take (i := 1) (v := ?_) rfl (by kernel_rfl) (by kernel_rfl) (by kernel_rfl) (fun _ _ _ h => h) (Or.inl ⟨by rfl, ?_⟩) (by assumption) ?_
      rotate_left
      · intro w9 hSw; (try dsimp only at hSw); go_simp; try with_reducible rfl
      try simp only [List.getElem_toArray, List.getElem_cons_succ, List.getElem_cons_zero, Act.put, List.setIfInBounds_toArray, List.set_cons_zero, List.set_cons_succ]
      refine wpAnyH_take (i := 2) (v := ?_) rfl (by kernel_rfl) (by kernel_rfl) (by kernel_rfl) (fun _ _ _ h => h) (Or.inl ⟨by rfl, ?_⟩) (by assumption) ?_
      rotate_left
      · intro w9 hSw; (try dsimp only at hSw); go_simp; try with_reducible rfl
      try simp only [List.getElem_toArray, List.getElem_cons_succ, List.getElem_cons_zero, Act.put, List.setIfInBounds_toArray, List.set_cons_zero, List.set_cons_succ]
      refine wpAnyH_take (i := 3) (v := ?_) rfl (by kernel_rfl) (by kernel_rfl) (by kernel_rfl) (fun _ _ _ h => h) (Or.inl ⟨by rfl, ?_⟩) (by assumption) ?_
      rotate_left
      · intro w9 hSw; (try dsimp only at hSw); go_simp; try with_reducible rfl
      try simp only [List.getElem_toArray, List.getElem_cons_succ, List.getElem_cons_zero, Act.put, List.setIfInBounds_toArray, List.set_cons_zero, List.set_cons_succ]
      refine wpAnyH_take (i := 4) (v := ?_) rfl (by kernel_rfl) (by kernel_rfl) (by kernel_rfl) (fun _ _ _ h => h) (Or.inl ⟨by rfl, ?_⟩) (by assumption) ?_
      rotate_left
      · intro w9 hSw; (try dsimp only at hSw); go_simp; try with_reducible rfl
      try simp only [List.getElem_toArray, List.getElem_cons_succ, List.getElem_cons_zero, Act.put, List.setIfInBounds_toArray, List.set_cons_zero, List.set_cons_succ]
      refine wpAnyH_take (i := 5) (v := ?_) rfl (by kernel_rfl) (by kernel_rfl) (by kernel_rfl) (fun _ _ _ h => h) (Or.inl ⟨by rfl, ?_⟩) (by assumption) ?_
      rotate_left
      · intro w9 hSw; (try dsimp only at hSw); go_simp; try with_reducible rfl
      try simp only [List.getElem_toArray, List.getElem_cons_succ, List.getElem_cons_zero, Act.put, List.setIfInBounds_toArray, List.set_cons_zero, List.set_cons_succ]
      refine wpAnyH_take (i := 6) (v := ?_) rfl (by kernel_rfl) (by kernel_rfl) (by kernel_rfl) (fun _ _ _ h => h) (Or.inl ⟨by rfl, ?_⟩) (by assumption) ?_
      rotate_left
      · intro w9 hSw; (try dsimp only at hSw); go_simp; try with_reducible rfl
      try simp only [List.getElem_toArray, List.getElem_cons_succ, List.getElem_cons_zero, Act.put, List.setIfInBounds_toArray, List.set_cons_zero, List.set_cons_succ]
      refine wpAnyH_ready (rs := [7]) (by kernel_rfl) (by simp) ?_
      refine AllReadyH.cons rfl (fun K hK => ?_) ?_
      · try rw [if_neg hne]
        (refine step_copy_splice (by rfl) _ _ _ _ (by rfl) 3 Try.underlying23 hsz (some ⟨w.heap.size, m, none⟩) (some ⟨w.heap.size, 0, none⟩) (n - m) (n - m) m n (by rfl) (by rfl) w.heap.size m (fill zz n m) 3 (by exact hg.out) (List.replicate kk (Value.int .i64 zz)) hl1 (fun _ => ⟨rfl, _, rfl, HCS.out _ (by exact hg.out)⟩) hl2 (by simp [Value.oneCell']) w.heap.size w (by first | exact HBl.out | exact HBl.out.drew) (Nat.le_refl _) ?_)
        intro w4 hg4 hb4
        have HB4 := Lib.hid hb4
        clear hb4
        have hl4 : (List.replicate kk (Value.int IntKind.i64 zz)).length = kk := List.length_replicate
        rw [hl4]
        clear hl4
        refine hK.out _ _ ?_ (fun hHeld => ?_)
        · trivial
        clear hK K
        try simp only [List.getElem_toArray, List.getElem_cons_succ, List.getElem_cons_zero, Act.put, List.setIfInBounds_toArray, List.set_cons_zero, List.set_cons_succ]
        refine wpAnyH_take (i := 8) (v := ?_) rfl (by kernel_rfl) (by kernel_rfl) (by kernel_rfl) (fun _ _ _ h => h) (Or.inl ⟨by rfl, ?_⟩) (by assumption) ?_
        rotate_left
        · intro w9 hSw; (try dsimp only at hSw); go_simp; try with_reducible rfl
        try simp only [List.getElem_toArray, List.getElem_cons_succ, List.getElem_cons_zero, Act.put, List.setIfInBounds_toArray, List.set_cons_zero, List.set_cons_succ]
        refine wpAnyH_take (i := 9) (v := ?_) rfl (by kernel_rfl) (by kernel_rfl) (by kernel_rfl) (fun _ _ _ h => h) (Or.inl ⟨by rfl, ?_⟩) (by assumption) ?_
        rotate_left
        · intro w9 hSw; (try dsimp only at hSw); go_simp; try with_reducible rfl
        try simp only [List.getElem_toArray, List.getElem_cons_succ, List.getElem_cons_zero, Act.put, List.setIfInBounds_toArray, List.set_cons_zero, List.set_cons_succ]
        refine wpAnyH_done (by kernel_rfl) ?_ _
        refine NoPanic.normal ?_
        go_wp2_with fail
        go_roundw
        case rel => exact ⟨m + kk, by omega, by omega, by go_num, by rw [← HF1.out]; exact hg4, HB4.out⟩
        case measure => simp [intOf]; omega
      exact AllReadyH.nil
    · obtain rfl : m = n := by omega
      have HF := Lib.hid (show intfns.Made (List.replicate m zz) w (.returned (.slice (some ⟨w.heap.size, 0, none⟩) m m)) wr from ⟨_, rfl, OwnI.of ⟨by simp, .inr ⟨w.heap.size, m, (fill zz m m).toArray, by simp, Nat.le_refl _, hg.out, by simp, by unfold maxLen; simp; omega, by simp [fill], by simp [fill]⟩⟩, HBl.out⟩)
      clear hg
      go_wp2_with fail
      go_ret
      exact HF.out
set_option maxRecDepth 100000 in
set_option maxHeartbeats 4000000 in
theorem reps0 (zz : Int) (b off c : Nat) (w : World) (hc : w.cell? ⟨b, off, none⟩ = some (.int .i64 zz)) :
    Calls Try.prog 130 #[.slice (some ⟨b, off, none⟩) 1 c, .int .i64 0] w (intfns.Made [] w) := by
  obtain ⟨i0, hi, hz0, hz1, hz2⟩ := info_parts infoInt
  have HMul := Lib.hid (show Calls Try.prog 144 #[.int .u64 1, .int .u64 0] w fun e w' => e = .returned (.tuple #[.int .u64 0, .int .u64 0]) ∧ w = w' from by
    have := Try.bits_Mul 1 0 (by omega) (by omega) w
    rw [Nat.one_mul, Nat.div_eq_of_lt (by omega), Nat.mod_eq_of_lt (by omega)] at this
    exact this.mono fun _ _ h => ⟨h.1, h.2.symm⟩)
  go_enter Try.func130, Try.ntmps130
  go_wp2_with fail
  refine HMul.out.mono ?_
  rintro e w' ⟨rfl, rfl⟩
  go_wp2_with (refine wpList_make_full _ rfl _ _ 23 rfl w.heap.size 3 i0 (.int .i64 0) 1 Try.underlying23 hi hz0 hz1 .i64 .i64 _ _ 0 rfl rfl rfl rfl (by rw [hz2]; omega) (by unfold maxLen; omega) (Nat.le_refl _) ?_; intro w1 hown1 hgrow1; refine Hid.out ?_)
  refine Lib.hid ?_
  have hb1 : Below w.heap.size w w1 := (Below.refl _ _).grown hgrow1 (Nat.le_refl _) (by simp)
  rw [show (Value.int .i64 0).cells = #[Value.int .i64 0] from rfl, Nat.mul_one, toList_madeCells_one] at hown1
  obtain ⟨g, cap, cur, e, hl, hh, hn', hm, hs', ht⟩ : ∃ g cap cur, Value.slice (some ⟨w.heap.size, 0, none⟩) 0 0 = .slice (some ⟨g, 0, none⟩) 0 cap ∧ w.heap.size ≤ g ∧ w1.heap[g]? = some (.cells cur 3 (0, 0)) ∧ 0 ≤ cap ∧ cap ≤ maxLen ∧ cur.size = cap * 1 ∧ cur.toList.take (0 * 1) = List.replicate 0 (.int .i64 0) := by
    rcases hown1.2 with ⟨e, _⟩ | h
    · cases e
    · exact h
  cases e
  have hcur : cur = (#[] : Array Value) := by
    apply Array.eq_empty_of_size_eq_zero
    omega
  subst hcur
  have HH := Lib.hid hh
  have HB1 := Lib.hid hb1
  clear hh hown1 hgrow1 hb1 ht hs' hm hn'
  go_wp2_with (refine wpList_copy_splice (o := ⟨some 33, _, _, _, _, _⟩) rfl (.tmp 31) (.tmp 32) 23 23 rfl 3 Try.underlying23 (by rw [hi]; simp [hz1]) (some ⟨w.heap.size, 0, none⟩) (some ⟨b, off, none⟩) 0 0 1 c (by rfl) (by rfl) w.heap.size 0 [] 3 HH.out [] (show 0 = min 1 0 by omega) (fun h => absurd h (by simp)) (by simp) (by simp) w.heap.size w HB1.out (Nat.le_refl _) ?_; intro w2 hg2 hb2; refine Hid.out ?_)
  refine Lib.hid ?_
  have HB2 := Lib.hid hb2
  have HG2 := Lib.hid hg2
  clear hb2 hg2
  go_wp2_with fail
  go_loopw [8] (fun i wr => i = .int .i64 0 ∧ wr = w2) (fun i _ => 0)
  case atStart => exact ⟨rfl, rfl⟩
  case round =>
    obtain ⟨rfl, hwr⟩ := hrel
    rw [hwr]
    clear hwr wr
    have HF := Lib.hid (show intfns.Made [] w (.returned (.slice (some ⟨w.heap.size, 0, none⟩) 0 0)) w2 from ⟨_, rfl, OwnI.of ⟨by simp, .inr ⟨w.heap.size, 0, #[], by simp, Nat.le_refl _, HG2.out, by simp, by unfold maxLen; simp, by simp, by simp⟩⟩, HB2.out⟩)
    go_wp2_with fail
    go_ret
    exact HF.out
theorem rep_any (zz : Int) (b off c n : Nat) (w : World) (hc : w.cell? ⟨b, off, none⟩ = some (.int .i64 zz)) (h8 : n ≤ 1000) :
    Calls Try.prog 130 #[.slice (some ⟨b, off, none⟩) 1 c, .int .i64 n] w (intfns.Made (List.replicate n zz) w) := by
  by_cases h : n = 0
  · subst h
    exact reps0 zz b off c w hc
  · exact reps zz b off c n w hc (by omega) h8
end Go.Proofs.Ytkbcofgigfnfaaa.repz
