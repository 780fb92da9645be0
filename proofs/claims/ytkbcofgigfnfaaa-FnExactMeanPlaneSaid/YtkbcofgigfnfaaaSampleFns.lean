/- The walks of the laws' own helpers on samples: szSample, toSample, eqSample, markSample, heldSample. -/
import Derived.Test.YtkbcofgigfnfaaaGridFns
namespace Go.Proofs.Ytkbcofgigfnfaaa.samplefns
open Go.RowKit own
set_option linter.unusedVariables false

theorem sz_yes (a : Option Addr) (rows : List (List Int)) (c : Nat) (a' : Option Addr) (n c' : Nat) (left : Int) (w : World) (hr : grid.Reads w a rows)
    (h0 : (rows.length : Int) + (grid.tot rows : Int) + (n : Int) ≤ left) (h1 : left ≤ 1048576) :
    Calls Try.prog 15 #[.agg #[.slice a rows.length c, .slice a' n c'], .int .i64 left] w fun e w' => e = .returned (.int .i64 (left - rows.length - grid.tot rows - n)) ∧ Below w.heap.size w w' := by
  have hB := ((Below.refl w.heap.size w).alloc (Nat.le_refl _) (.cells #[.slice a rows.length c, .slice a' n c'] 25))
  have hr1 := hr.below hB
  have HB := Lib.hid hB
  clear hB
  go_enter Try.func15, Try.ntmps15
  go_wp2_with fail
  refine (gridfns.sz_yes _ _ _ _ _ hr1 (by omega) (by omega)).mono ?_
  rintro e w' ⟨rfl, rfl⟩
  go_wp2_with fail
  refine (intfns.sz_yes _ _ _ _ _ (by omega) (by omega)).mono ?_
  rintro e w' ⟨rfl, rfl⟩
  go_wp2_with fail
  go_ret
  exact ⟨rfl, HB.out⟩

theorem sz_no (a : Option Addr) (rows : List (List Int)) (c : Nat) (a' : Option Addr) (n c' : Nat) (left : Int) (w : World) (hr : grid.Reads w a rows) (hl : rows.length ≤ 9223372036854775807) (hs : ∀ s ∈ rows, s.length ≤ 9223372036854775807) (hn : n ≤ 9223372036854775807)
    (h0 : left < (rows.length : Int) + (grid.tot rows : Int) + (n : Int)) (h1 : left ≤ 1048576) (h2 : 0 ≤ left) :
    Calls Try.prog 15 #[.agg #[.slice a rows.length c, .slice a' n c'], .int .i64 left] w fun e w' => e = .returned (.int .i64 (-1)) ∧ Below w.heap.size w w' := by
  have hB := ((Below.refl w.heap.size w).alloc (Nat.le_refl _) (.cells #[.slice a rows.length c, .slice a' n c'] 25))
  have hr1 := hr.below hB
  have HB := Lib.hid hB
  have HS := Lib.hid hs
  clear hB hs
  by_cases hg : left < (rows.length : Int) + (grid.tot rows : Int)
  · go_enter Try.func15, Try.ntmps15
    go_wp2_with fail
    refine (gridfns.sz_no _ _ _ _ _ hr1 hl HS.out hg h1 h2).mono ?_
    rintro e w' ⟨rfl, rfl⟩
    go_wp2_with fail
    go_ret
    exact ⟨rfl, HB.out⟩
  · go_enter Try.func15, Try.ntmps15
    go_wp2_with fail
    refine (gridfns.sz_yes _ _ _ _ _ hr1 (by omega) (by omega)).mono ?_
    rintro e w' ⟨rfl, rfl⟩
    go_wp2_with fail
    refine (intfns.sz_no _ _ _ _ _ (by omega) (by omega) (by omega) hn).mono ?_
    rintro e w' ⟨rfl, rfl⟩
    go_wp2_with fail
    go_ret
    exact ⟨rfl, HB.out⟩

/-- What a copy is. -/
def MadeS (rows : List (List Int)) (zs : List Int) (w : World) (e : Ending) (w' : World) : Prop :=
  ∃ p l, e = .returned (.agg #[p, l]) ∧ OwnS w.heap.size w'.heap.size w' p l rows zs ∧ Below w.heap.size w w'

set_option maxHeartbeats 400000 in
theorem to_any (a : Option Addr) (rows : List (List Int)) (c : Nat) (a' : Option Addr) (zs : List Int) (c' : Nat) (w : World) (hr : grid.Reads w a rows) (hr' : ints.Reads .i64 w a' zs) (hn : (rows.length : Int) + (grid.tot rows : Int) ≤ 1048576) (hz : zs.length ≤ 1048576) :
    Calls Try.prog 17 #[.agg #[.slice a rows.length c, .slice a' zs.length c']] w (MadeS rows zs w) := by
  have hB : Below w.heap.size w (((w.alloc (.cells #[.slice a rows.length c, .slice a' zs.length c'] 25)).alloc (.cells #[.slice none 0 0, .slice none 0 0] 29)).alloc (.cells #[.slice none 0 0, .slice none 0 0] 29)) :=
    (((Below.refl _ _).alloc (Nat.le_refl _) _).alloc (by simp) _).alloc (by simp; omega) _
  have hr1 := hr.below hB
  have HB := Lib.hid hB
  clear hB hr
  go_enter Try.func17, Try.ntmps17
  go_wp2_with fail
  refine (gridfns.to_any a rows c _ hr1 hn).mono ?_
  rintro e w1 ⟨v, rfl, ho, hb⟩
  obtain ⟨p, q, rfl, _, _, _⟩ := ho.slice
  obtain ⟨hc, hf⟩ := bcell hb
  have hs : w.heap.size + 1 + 1 < w1.heap.size := by have := hb.size; simp at this; omega
  have hs' : w.heap.size + 1 < w1.heap.size := by omega
  have hs'' : w.heap.size < w1.heap.size := by omega
  have HB1 := Lib.hid hb
  have HO := Lib.hid (ho.mono (lo' := w.heap.size + 3) (by simp) (Nat.le_refl _))
  clear ho hr1
  have hb2 := (HB.out.trans (hb.mono (by simp; omega))).setCell (p := ⟨w.heap.size + 1 + 1, 0, none⟩) (by simp; omega) (.slice p rows.length q)
  have hr3 := hr'.below hb2
  have HB2 := Lib.hid hb2
  clear hb hb2
  go_wp2_with fail
  refine (intfns.to_any a' zs c' _ hr3 hz).mono ?_
  rintro e w2 ⟨v, rfl, ho2, hb⟩
  obtain ⟨p2, q2, rfl, _, _, _⟩ := ho2.slice
  obtain ⟨hc2, hf2⟩ := bcell hb
  have hs2 : w1.heap.size ≤ w2.heap.size := by have := hb.size; simp [World.setCell] at this; omega
  have HB3 := Lib.hid (HB2.out.trans (hb.mono (by simp [World.setCell]; omega)))
  have HO1 := Lib.hid ((HO.out.block' (w' := w1.setCell ⟨w.heap.size + 1 + 1, 0, none⟩ (.slice p rows.length q)) (fun g h1 _ => Below.heap_setCell _ _ _ _ (by simp; omega)) (by simp [World.setCell])).below hb)
  have HO2 := Lib.hid ho2
  clear hb ho2 hr3
  go_wp2_with fail
  refine bodyPost_ret (v := .agg #[.slice p rows.length q, .slice p2 zs.length q2]) (by simp [results, Try.results17, go_sem, hc, hc2, hs']) rfl ⟨_, _, rfl, ?_, ?_⟩
  · simp only [size_set]
    refine OwnS.of (l1 := w.heap.size + 3) (h1 := w1.heap.size) (l2 := w1.heap.size) (h2 := w2.heap.size) ?_ ?_ (.inl (Nat.le_refl _)) (by omega) (by omega) (by omega) (Nat.le_refl _)
    · exact ((HO1.out.set (by simp) _).set (by simp) _).set (by simp) _
    · exact (((HO2.out.mono (lo' := w1.heap.size) (by simp [World.setCell]) (Nat.le_refl _)).set (by omega) _).set (by omega) _).set (by omega) _
  · exact ((HB3.out.setCell (by simp; omega) _).setCell (by simp) _).setCell (by simp) _
set_option maxHeartbeats 400000 in
theorem eq_same (a a' : Option Addr) (rows : List (List Int)) (c c' : Nat) (b b' : Option Addr) (zs : List Int) (d d' : Nat) (w : World) (hr : grid.Reads w a rows) (hr' : grid.Reads w a' rows) (hq : ints.Reads .i64 w b zs) (hq' : ints.Reads .i64 w b' zs)
    (hn : rows.length ≤ 9223372036854775807) (hm : ∀ s ∈ rows, s.length ≤ 9223372036854775807) (hz : zs.length ≤ 9223372036854775807) :
    Calls Try.prog 21 #[.agg #[.slice a rows.length c, .slice b zs.length d], .agg #[.slice a' rows.length c', .slice b' zs.length d']] w fun e w' => e = .returned (.bool true) ∧ Below w.heap.size w w' := by
  have hB := (((Below.refl w.heap.size w).alloc (Nat.le_refl _) (.cells #[.slice a rows.length c, .slice b zs.length d] 29)).alloc (by simp) (.cells #[.slice a' rows.length c', .slice b' zs.length d'] 29))
  have hr1 := hr.below hB
  have hr1' := hr'.below hB
  have hq1 := hq.below hB
  have hq1' := hq'.below hB
  have HB := Lib.hid hB
  have HM := Lib.hid hm
  clear hB hr hr' hq hq' hm
  go_enter Try.func21, Try.ntmps21
  go_wp2_with fail
  refine (gridfns.eq_same _ _ rows _ _ _ hr1 hr1' hn HM.out).mono ?_
  rintro e w1 ⟨rfl, hb⟩
  obtain ⟨hc, hf⟩ := bcell hb
  have hs : w.heap.size + 1 + 1 ≤ w1.heap.size := by have := hb.size; simp at this; omega
  have hq2 := hq1.below hb
  have hq2' := hq1'.below hb
  have HB1 := Lib.hid (HB.out.trans (hb.mono (by simp; omega)))
  clear hb hr1 hr1' hq1 hq1'
  go_wp2_with fail
  refine (intfns.eq_same _ _ zs _ _ _ hq2 hq2' hz).mono ?_
  rintro e w2 ⟨rfl, hb⟩
  have HB2 := Lib.hid (HB1.out.trans (hb.mono (by omega)))
  clear hb hq2 hq2'
  go_wp2_with fail
  go_ret
  exact ⟨rfl, HB2.out⟩
/-- What marking leaves. -/
def MarkedS (lo hi : Nat) (p l : Value) (rows : List (List Int)) (n K : Nat) (w : World) (e : Ending) (w' : World) : Prop :=
  e = .returned (.int .i64 (K + grid.tot rows + n : Nat)) ∧ OwnS lo hi w' p l (markRows K rows) (intfns.marks (K + grid.tot rows) n) ∧ Only lo hi w w'

set_option maxHeartbeats 400000 in
theorem mark_any (lo hi : Nat) (a : Option Addr) (c : Nat) (rows : List (List Int)) (b : Option Addr) (d : Nat) (zs : List Int) (K : Nat) (w : World) (h : OwnS lo hi w (.slice a rows.length c) (.slice b zs.length d) rows zs) (h2 : K + grid.tot rows + zs.length ≤ 4611686018427387904) (hn : rows.length ≤ 9223372036854775807) :
    Calls Try.prog 22 #[.agg #[.slice a rows.length c, .slice b zs.length d], .int .i64 K] w (MarkedS lo hi (.slice a rows.length c) (.slice b zs.length d) rows zs.length K w) := by
  have hB := ((Below.refl w.heap.size w).alloc (Nat.le_refl _) (.cells #[.slice a rows.length c, .slice b zs.length d] 29))
  obtain ⟨cs, k1, h3', h4⟩ := h
  have hlow : ∀ g, Blk cs rows.length g → g ≠ w.heap.size := fun g hg e => by have := (k1.blk hg).2.2; omega
  have hlow2 : ∀ g, (Value.slice b zs.length d).ownBlock = some g → g ≠ w.heap.size := fun g hg e => by have := (h3'.lt hg).2.2; omega
  have h1 : OwnC lo hi _ (.slice a rows.length c) rows cs := k1.stir (Stir.of_below (S := fun _ => False) hB) (fun _ _ h => h) (fun _ _ h => h)
  have h3 := h3'.below hB
  have HL := Lib.hid hlow
  have HL2 := Lib.hid hlow2
  have hblk : ∀ g, (Value.slice a rows.length c).ownBlock = some g → (Value.slice b zs.length d).ownBlock ≠ some g := fun g hg => ownsRow_ne h1.1 h3.1 (by decide) hg
  have hpl : ∀ g, (Value.slice a rows.length c).ownBlock = some g → ¬ Blk cs rows.length g := fun g hg ⟨i, hi, he⟩ => ownsRow_ne h1.1 (h1.2.2.2.1 i hi).1 (by decide) hg he
  have HP := Lib.hid hpl
  have HQ := Lib.hid hblk
  have H1 := Lib.hid h1
  have H3 := Lib.hid h3
  have H4 := Lib.hid h4
  have HB := Lib.hid hB
  clear hB h1 h3 h4 hpl hblk hlow hlow2 k1 h3'
  go_enter Try.func22, Try.ntmps22
  go_wp2_with fail
  refine (gridfns.mark_any lo hi _ _ rows cs K _ H1.out (by omega) hn).mono ?_
  rintro e w1 ⟨rfl, ho1, ht1⟩
  have hc : ∀ o, w1.cell? ⟨w.heap.size, o, none⟩ = (w.alloc (.cells #[.slice a rows.length c, .slice b zs.length d] 29)).cell? ⟨w.heap.size, o, none⟩ := fun o =>
    World.cell?_of_block (ht1.block w.heap.size (by simp) (fun hb => HL.out _ hb rfl))
  have HO1 := Lib.hid ho1
  have HL1 := Lib.hid (H3.out.stir ht1 H4.out)
  have HT1 := Lib.hid ht1
  clear ho1 ht1
  go_wp2_with fail
  refine (intfns.mark_any lo hi _ _ zs (K + grid.tot rows) _ HL1.out (by omega)).mono ?_
  rintro e w2 ⟨rfl, ho2, hg2⟩
  have HO2 := Lib.hid ho2
  have HG2 := Lib.hid hg2
  clear ho2 hg2
  go_wp2_with fail
  go_ret
  have hS2 : Stir (fun g => some g = (Value.slice b zs.length d).ownBlock) w1 w2 := Stir.of_grown (HG2.out _ rfl) fun g hg => hg.symm
  refine ⟨rfl, ⟨cs, HO1.out.stir hS2 (fun g hg e => HQ.out g hg e.symm) (fun g hg e => H4.out g e.symm (by rw [markRows_length] at hg; exact hg)), HO2.out, by rw [markRows_length]; exact H4.out⟩, ?_⟩
  refine (Only.of_below HB.out).trans ((HT1.out.only fun k hk => ⟨(H1.out.blk hk).1, (H1.out.blk hk).2.1⟩).trans (hS2.only fun k hk => ⟨(H3.out.lt hk.symm).1, (H3.out.lt hk.symm).2.1⟩))
end Go.Proofs.Ytkbcofgigfnfaaa.samplefns
