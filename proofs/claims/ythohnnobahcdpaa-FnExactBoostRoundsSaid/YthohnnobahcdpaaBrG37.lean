/- Several texts in one. -/
import Derived.BigQuiet
import Derived.Deep.DrawnRows
import Derived.Deep.RegionHeld3
import Derived.Test.YthohnnobahcdpaaBrG35
import Derived.Test.YthohnnobahcdpaaBrG36
import Derived.Test.YthohnnobahcdpaaMargin
namespace Go.Proofs.Ythohnnobahcdpaa.own
open Go.RowKit pp nums concj
set_option linter.unusedVariables false
set_option linter.unusedSimpArgs false
theorem flatJ_append (cs cs' : List Value) (ps ps' : List (List Int × Int)) (h : cs.length = ps.length) : flatJ (cs ++ cs') (ps ++ ps') = flatJ cs ps ++ flatJ cs' ps' := by
  induction ps generalizing cs with
  | nil =>
    cases cs with
    | nil => rfl
    | cons _ _ => cases h
  | cons y ps ih =>
    cases cs with
    | nil => cases h
    | cons d cs =>
      have := ih cs (by simpa using h)
      simp only [List.cons_append, flatJ, this]
theorem RowsOf.append {lo mid hi : Nat} {w : World} {cs cs' : List Value} {rows rows' : List (List Int)} (h : RowsOf lo mid w cs rows) (k : RowsOf mid hi w cs' rows') (h1 : lo ≤ mid) (h2 : mid ≤ hi) : RowsOf lo hi w (cs ++ cs') (rows ++ rows') := by
  obtain ⟨a1, a2, a3⟩ := h
  obtain ⟨b1, b2, b3⟩ := k
  have gl : ∀ i, i < rows.length → (cs ++ cs').getD i undef = cs.getD i undef ∧ (rows ++ rows').getD i [] = rows.getD i [] := fun i hi => by
    rw [List.getD_eq_getElem?_getD, List.getD_eq_getElem?_getD, List.getD_eq_getElem?_getD, List.getD_eq_getElem?_getD, List.getElem?_append_left (by omega), List.getElem?_append_left hi]
    exact ⟨rfl, rfl⟩
  have gr : ∀ i, rows.length ≤ i → (cs ++ cs').getD i undef = cs'.getD (i - rows.length) undef ∧ (rows ++ rows').getD i [] = rows'.getD (i - rows.length) [] := fun i hi => by
    rw [List.getD_eq_getElem?_getD, List.getD_eq_getElem?_getD, List.getD_eq_getElem?_getD, List.getD_eq_getElem?_getD, List.getElem?_append_right (by omega), List.getElem?_append_right hi, a1]
    exact ⟨rfl, rfl⟩
  refine ⟨by rw [List.length_append, List.length_append]; omega, fun i hi => ?_, fun i j hij hj g hg => ?_⟩
  · rw [List.length_append] at hi
    by_cases e : i < rows.length
    · rw [(gl i e).1, (gl i e).2]; exact (a2 i e).mono (Nat.le_refl _) h2
    · rw [(gr i (by omega)).1, (gr i (by omega)).2]; exact (b2 (i - rows.length) (by omega)).mono h1 (Nat.le_refl _)
  · rw [List.length_append] at hj
    by_cases ei : i < rows.length
    · rw [(gl i ei).1] at hg
      by_cases ej : j < rows.length
      · rw [(gl j ej).1]; exact a3 i j hij ej g hg
      · rw [(gr j (by omega)).1]
        intro hg2
        have h3 := (a2 i ei).lt hg
        have h4 := (b2 (j - rows.length) (by omega)).lt hg2
        omega
    · rw [(gr i (by omega)).1] at hg
      rw [(gr j (by omega)).1]
      exact b3 (i - rows.length) (j - rows.length) (by omega) (by omega) g hg
theorem OwnK.len {lo hi : Nat} {w : World} {v : Value} {ps : List (List Int × Int)} {cs : List Value} (h : OwnK lo hi w v ps cs) : cs.length = ps.length := by
  have := h.2.2.1
  rw [List.length_map] at this
  exact this
theorem OwnK.cellsAt {lo hi : Nat} {w : World} {a : Option Addr} {n c : Nat} {ps : List (List Int × Int)} {cs : List Value} (h : OwnK lo hi w (.slice a n c) ps cs) : CellsAt w a (flatJ cs ps) := by
  rcases h.1.2 with ⟨e, h0⟩ | ⟨g, cap, cur, e, hb, hh, _⟩
  · left
    have : ps = [] := List.length_eq_zero_iff.1 h0
    subst this
    cases cs <;> rfl
  · cases e
    exact .inr ⟨g, 0, rfl, (Array.getElem?_eq_some_iff.1 hh).1, fun j u hu => h.1.cells (g := g) rfl j u hu⟩
theorem flat_one : ∀ (cs : List Value) (ps : List (List Int × Int)), (∀ c ∈ cs, c.oneCell' = true) → ∀ u ∈ flatJ cs ps, u.oneCell' = true
  | [], _, _, u, hu => by cases hu
  | c :: cs, [], _, u, hu => by cases hu
  | c :: cs, x :: ps, h, u, hu => by
    simp only [flatJ, List.mem_cons] at hu
    rcases hu with rfl | rfl | hu
    · exact h _ (by simp)
    · rfl
    · exact flat_one cs ps (fun c hc => h c (by simp [hc])) u hu
theorem OwnK.one {lo hi : Nat} {w : World} {v : Value} {ps : List (List Int × Int)} {cs : List Value} (h : OwnK lo hi w v ps cs) : ∀ u ∈ flatJ cs ps, u.oneCell' = true := by
  refine flat_one cs ps fun c hc => ?_
  obtain ⟨i, hi, rfl⟩ := List.mem_iff_getElem.1 hc
  have := h.2.2.2.1 i (by rw [← h.2.2.1]; exact hi)
  rw [List.getD_eq_getElem?_getD, List.getElem?_eq_getElem hi] at this
  obtain ⟨p, c, e, _⟩ := this.slice
  rw [show cs[i] = _ from e]
  rfl
theorem OwnK.below {lo hi : Nat} {w w' : World} {v : Value} {ps : List (List Int × Int)} {cs : List Value} (h : OwnK lo hi w v ps cs) (hb : Below w.heap.size w w') : OwnK lo hi w' v ps cs :=
  ⟨ownsRow_block h.1 (fun g hg => hb.block g (h.1.lt g hg).2), h.2.1, h.2.2.below hb⟩
theorem OwnK.slice {lo hi : Nat} {w : World} {v : Value} {ps : List (List Int × Int)} {cs : List Value} (h : OwnK lo hi w v ps cs) : ∃ a c, v = .slice a ps.length c := by
  obtain ⟨a, c, e, _⟩ := (show OwnJ lo hi w v ps from ⟨cs, h⟩).slice
  exact ⟨a, c, e⟩

end Go.Proofs.Ythohnnobahcdpaa.own
namespace Go.Proofs.Ythohnnobahcdpaa.stmo
open Go.RowKit own pp nums bndp bndi stmp stmi concj margin
set_option linter.unusedVariables false
set_option linter.unusedSimpArgs false

set_option maxRecDepth 100000 in
set_option maxHeartbeats 1600000 in
theorem impl_no (a : Option Addr) (rows : List (List Int)) (c : Nat) (a' : Option Addr) (zs : List Int) (c' : Nat) (w : World) (hr : grid.Reads w a rows) (hz : ints.Reads .i64 w a' zs) (hn : rows.length ≤ 1048576) (hk : zs.length ≤ 1048576) (hm : ∀ r ∈ rows, r.length ≤ 1048576) (h : hpB rows zs = false) :
    Calls Try.prog 24 #[.agg #[.slice a rows.length c, .slice a' zs.length c']] w (RetJB [] false w) := by
  have HH := Lib.hid h
  have Hhr := Lib.hid hr
  have Hhz := Lib.hid hz
  have Hhm := Lib.hid hm
  clear hr hz hm
  clear h
  go_enter Try.func24, Try.ntmps24
  obtain ⟨wb1, hw1⟩ : ∃ wb1 : World, wb1 = w.alloc (.cells #[.slice a rows.length c, .slice a' zs.length c'] 38) := ⟨_, rfl⟩
  have z1 : wb1.heap.size = w.heap.size + 1 := by rw [hw1]; simp
  have x0_0 := (by rw [hw1]; exact cell_new _ _ _ rfl rfl : wb1.cell? ⟨w.heap.size, 0, none⟩ = some (.slice a rows.length c))
  have x0_1 := (by rw [hw1]; exact cell_new _ _ _ rfl rfl : wb1.cell? ⟨w.heap.size, 1, none⟩ = some (.slice a' zs.length c'))
  have HB0 := Lib.hid (show Below w.heap.size w wb1 by rw [hw1]; exact (Below.refl w.heap.size w).alloc (Nat.le_refl _) _)
  have s1 : w.heap.size + 1 ≤ wb1.heap.size := by omega
  have HZ1 := Lib.hid z1
  clear z1
  go_wp2_with fail
  rw [← hw1]
  clear hw1
  refine (impl_hasPoints a rows c a' zs c' _ (Hhr.out.below HB0.out) (Hhz.out.below HB0.out) hn hk Hhm.out false HH).mono ?_
  rintro e w2 ⟨rfl, hb⟩
  have HB2 := Lib.hid (HB0.out.trans (hb.mono (by omega)))
  clear hb
  have HE := Lib.hid (show OwnJ w2.heap.size (w2.heap.size + 1) (w2.alloc (.cells #[] 27)) (.slice (some ⟨w2.heap.size, 0, none⟩) 0 0) [] from ⟨[], emptyJ w2⟩)
  go_wp2_with fail
  go_ret2
  exact ⟨_, rfl, HE.out.mono HB2.out.size (by simp), HB2.out.alloc HB2.out.size _⟩
set_option maxRecDepth 100000 in
set_option maxHeartbeats 1600000 in
theorem impl_yes (a : Option Addr) (rows : List (List Int)) (c : Nat) (a' : Option Addr) (zs : List Int) (c' : Nat) (w : World) (hr : grid.Reads w a rows) (hz : ints.Reads .i64 w a' zs) (hn : rows.length ≤ 1048576) (hk : zs.length ≤ 1048576) (hm : ∀ r ∈ rows, r.length ≤ 1048576) (h : hpB rows zs = true) :
    Calls Try.prog 24 #[.agg #[.slice a rows.length c, .slice a' zs.length c']] w (RetJB (stumpL rows) true w) := by
  have HH := Lib.hid h
  obtain ⟨hs9, h0⟩ := (hpB_iff _ _).1 h
  have h16 := ((sampleB_iff _ _).1 hs9).1
  obtain ⟨n, hn9⟩ : ∃ n, (rows.getD 0 []).length = n := ⟨_, rfl⟩
  have HN := Lib.hid hn9
  have hrow := fun i hi => all_at _ [] rows ((sampleB_iff _ _).1 hs9).2.2.2 i hi
  have h4 : n ≤ 4 := by
    have := hrow 0 h0
    simp only [Bool.and_eq_true, decide_eq_true_eq] at this
    rw [← hn9]
    exact ((pointB_iff _).1 this.1).2.1
  have HPF := Lib.hid (show ∀ k, k < n → PlFit rows k from fun k hk i hi => by
    have := hrow i hi
    simp only [Bool.and_eq_true, decide_eq_true_eq] at this
    have hl : (rows.getD i []).length = n := by rw [← hn9]; exact this.2
    exact ⟨by omega, numsB_at ((pointB_iff _).1 this.1).2.2 k (by omega)⟩)
  have HSL := Lib.hid (show stumpL rows = stumpTo rows n n from by unfold stumpL; rw [hn9])
  have Hhr := Lib.hid hr
  have Hhz := Lib.hid hz
  have Hhm := Lib.hid hm
  clear hr hz hm
  clear h hs9 hrow hn9
  have o0 : (0 : Int) < (rows.length : Int) := by omega
  go_enter Try.func24, Try.ntmps24
  obtain ⟨wb1, hw1⟩ : ∃ wb1 : World, wb1 = w.alloc (.cells #[.slice a rows.length c, .slice a' zs.length c'] 38) := ⟨_, rfl⟩
  have z1 : wb1.heap.size = w.heap.size + 1 := by rw [hw1]; simp
  have x0_0 := (by rw [hw1]; exact cell_new _ _ _ rfl rfl : wb1.cell? ⟨w.heap.size, 0, none⟩ = some (.slice a rows.length c))
  have x0_1 := (by rw [hw1]; exact cell_new _ _ _ rfl rfl : wb1.cell? ⟨w.heap.size, 1, none⟩ = some (.slice a' zs.length c'))
  have HB0 := Lib.hid (show Below w.heap.size w wb1 by rw [hw1]; exact (Below.refl w.heap.size w).alloc (Nat.le_refl _) _)
  have s1 : w.heap.size + 1 ≤ wb1.heap.size := by omega
  have HZ1 := Lib.hid z1
  clear z1
  go_wp2_with fail
  rw [← hw1]
  clear hw1
  refine (impl_hasPoints a rows c a' zs c' _ (Hhr.out.below HB0.out) (Hhz.out.below HB0.out) hn hk Hhm.out true HH).mono ?_
  rintro e w2 ⟨rfl, hb⟩
  replace x0_0 := cell_below hb x0_0 (by omega)
  replace x0_1 := cell_below hb x0_1 (by omega)
  have s2 := hb.size
  have HB2 := Lib.hid (HB0.out.trans (hb.mono (by omega)))
  clear hb
  obtain ⟨bl, off, rp, rq, hab, hbl, hc0, hpq, hrow⟩ := (Hhr.out.below HB2.out).at h0
  subst hab
  rw [Nat.add_zero, HN.out] at hc0
  have XX0 := Lib.hid x0_0
  have XX1 := Lib.hid x0_1
  have HE := Lib.hid (emptyJ w2)
  have hbe := below_alloc w2 (.cells #[] 27)
  have hse : (w2.alloc (.cells #[] 27)).heap.size = w2.heap.size + 1 := by simp
  replace hc0 := cell_below hbe hc0 hbl
  replace x0_0 := cell_below hbe x0_0 (by omega)
  replace x0_1 := cell_below hbe x0_1 (by omega)
  have HBE := Lib.hid hbe
  clear hbe hpq hrow
  go_wp2_with fail
  generalize w2.alloc (.cells #[] 27) = wE at *
  go_loopw [4, 16] (fun v i wr => ∃ (k : Nat) (cs : List Value), k ≤ n ∧ i = .int .i64 k ∧ OwnK w2.heap.size wr.heap.size wr v (stumpTo rows n k) cs ∧ Below w2.heap.size w2 wr) (fun _ i _ => n - (intOf i).toNat)
  case atStart => exact ⟨0, [], Nat.zero_le _, rfl, by (have := HE.out; rw [← hse] at this; exact this), HBE.out⟩
  case round =>
    obtain ⟨k, cs, hk, rfl, hown, hbel⟩ := hrel
    have hsz := hbel.size
    by_cases hlt : k < n
    · have y0 : wr.cell? ⟨w.heap.size, 0, none⟩ = some (.slice (some ⟨bl, off, none⟩) rows.length c) := cell_below (hbel.mono (Nat.le_refl _)) XX0.out (by omega)
      have y1 : wr.cell? ⟨w.heap.size, 1, none⟩ = some (.slice a' zs.length c') := cell_below hbel XX1.out (by omega)
      clear x0_0 x0_1
      have x0_0 := y0
      have x0_1 := y1
      clear y0 y1
      have hb17a := bnds_length rows k 1 h16
      have hb17b := bnds_length rows k (-1) h16
      have hpl0 := stumpTo_length rows n k h16
      have hB9 := HB2.out.trans (hbel.mono HB2.out.size)
      have HA1 := Lib.hid (fun (wa : World) (hB : Below wr.heap.size wr wa) => impl_at (some ⟨bl, off, none⟩) rows c a' zs c' k 1 wa (Hhr.out.below (hB9.trans (hB.mono hB9.size))) h16 h0 (HPF.out k hlt) (.inl rfl) n HN h4 hlt)
      have HA2 := Lib.hid (fun (wa : World) (hB : Below wr.heap.size wr wa) => impl_at (some ⟨bl, off, none⟩) rows c a' zs c' k (-1) wa (Hhr.out.below (hB9.trans (hB.mono hB9.size))) h16 h0 (HPF.out k hlt) (.inr rfl) n HN h4 hlt)
      obtain ⟨pa, ca, hu⟩ := hown.slice
      subst hu
      obtain ⟨nk, hpl⟩ : ∃ nk, (stumpTo rows n k).length = nk := ⟨_, rfl⟩
      rw [hpl] at hown hpl0 ⊢
      have HO := Lib.hid hown
      have HBl := Lib.hid hbel
      have HPL := Lib.hid hpl
      have i1 : (0 : Int) ≤ (k : Int) := by omega
      have i2 : (k : Int) < (n : Int) := by omega
      clear hown hbel hB9 hpl
      go_wp2_with fail
      refine wp_region_noPanic ?_
      refine wp_region_held_drew (S := fun w' => w'.cell? ⟨w.heap.size, 0, none⟩ = some (.slice (some ⟨bl, off, none⟩) rows.length c) ∧ w'.cell? ⟨w.heap.size, 1, none⟩ = some (.slice a' zs.length c')) (by kernel_rfl) ?_ (fun hHeld => ?_)
      · exact ⟨x0_0, x0_1⟩
      refine wpAnyH_take (i := 0) (v := ?_) rfl (by kernel_rfl) (by kernel_rfl) (by kernel_rfl) (fun _ _ _ h => h) (Or.inl ⟨by rfl, ?_⟩) (by assumption) ?_
      rotate_left
      · intro w9 hSw; (try dsimp only at hSw); go_simp; try with_reducible rfl
      try simp only [List.getElem_toArray, List.getElem_cons_succ, List.getElem_cons_zero, Act.put, List.setIfInBounds_toArray, List.set_cons_zero, List.set_cons_succ]
      refine wpAnyH_take (i := 1) (v := ?_) rfl (by kernel_rfl) (by kernel_rfl) (by kernel_rfl) (fun _ _ _ h => h) (Or.inl ⟨by rfl, ?_⟩) (by assumption) ?_
      rotate_left
      · intro w9 hSw; (try dsimp only at hSw); go_simp; try with_reducible rfl
      try simp only [List.getElem_toArray, List.getElem_cons_succ, List.getElem_cons_zero, Act.put, List.setIfInBounds_toArray, List.set_cons_zero, List.set_cons_succ]
      refine wpAnyH_take (i := 2) (v := ?_) rfl (by kernel_rfl) (by kernel_rfl) (by kernel_rfl) (fun _ _ _ h => h) (Or.inl ⟨by rfl, ?_⟩) (by assumption) ?_
      rotate_left
      · intro w9 hSw; (try dsimp only at hSw); go_simp; try with_reducible rfl
      try simp only [List.getElem_toArray, List.getElem_cons_succ, List.getElem_cons_zero, Act.put, List.setIfInBounds_toArray, List.set_cons_zero, List.set_cons_succ]
      refine wpAnyH_take (i := 4) (v := ?_) rfl (by kernel_rfl) (by kernel_rfl) (by kernel_rfl) (fun _ _ _ h => h) (Or.inl ⟨by rfl, ?_⟩) (by assumption) ?_
      rotate_left
      · intro w9 hSw; (try dsimp only at hSw); go_simp; try with_reducible rfl
      try simp only [List.getElem_toArray, List.getElem_cons_succ, List.getElem_cons_zero, Act.put, List.setIfInBounds_toArray, List.set_cons_zero, List.set_cons_succ]
      refine wpAnyH_take (i := 5) (v := ?_) rfl (by kernel_rfl) (by kernel_rfl) (by kernel_rfl) (fun _ _ _ h => h) (Or.inl ⟨by rfl, ?_⟩) (by assumption) ?_
      rotate_left
      · intro w9 hSw; (try dsimp only at hSw); go_simp; try with_reducible rfl
      try simp only [List.getElem_toArray, List.getElem_cons_succ, List.getElem_cons_zero, Act.put, List.setIfInBounds_toArray, List.set_cons_zero, List.set_cons_succ]
      refine wpAnyH_ready (rs := [3]) (by kernel_rfl) (by simp) ?_
      refine AllReadyH.cons rfl (fun K hK => ?_) AllReadyH.nil
      clear hHeld
      go_simp
      refine (HA1.out _ (Below.refl _ _).drew).mono ?_
      rintro e v1 ⟨u1, rfl, ho1, hb1⟩
      obtain ⟨cs1, ho1⟩ := ho1
      obtain ⟨p1, c1, hu1⟩ := ho1.slice
      subst hu1
      have HC1 := Lib.hid ((Below.refl wr.heap.size wr).drew.trans hb1)
      have hs1 := HC1.out.size
      have HK1 := Lib.hid ho1
      have m0 := cell_below HC1.out x0_0 (by omega)
      have m1 := cell_below HC1.out x0_1 (by omega)
      clear ho1 hb1
      refine hK.out _ _ ?_ (fun hHeld => ?_)
      · exact ⟨m0, m1⟩
      clear hK K
      try simp only [List.getElem_toArray, List.getElem_cons_succ, List.getElem_cons_zero, Act.put, List.setIfInBounds_toArray, List.set_cons_zero, List.set_cons_succ]
      refine wpAnyH_ready (rs := [6]) (by kernel_rfl) (by simp) ?_
      refine AllReadyH.cons rfl (fun K hK => ?_) AllReadyH.nil
      clear hHeld
      go_simp
      refine (HA2.out _ HC1.out).mono ?_
      rintro e v2 ⟨u2, rfl, ho2, hb2⟩
      obtain ⟨cs2, ho2⟩ := ho2
      obtain ⟨p2, c2, hu2⟩ := ho2.slice
      subst hu2
      have HC2 := Lib.hid (HC1.out.trans (hb2.mono hs1))
      have hs2 := hb2.size
      have HK2 := Lib.hid ho2
      have HK1b := Lib.hid (HK1.out.below hb2)
      have k0 := cell_below hb2 m0 (by omega)
      have k1 := cell_below hb2 m1 (by omega)
      obtain ⟨n1, hn1⟩ : ∃ n1, n1 = (stAt n k 1 (bnds rows k 1)).length := ⟨_, rfl⟩
      obtain ⟨n2, hn2⟩ : ∃ n2, n2 = (stAt n k (-1) (bnds rows k (-1))).length := ⟨_, rfl⟩
      rw [← hn1, ← hn2]
      have HN1 := Lib.hid hn1
      have HN2 := Lib.hid hn2
      clear hn1 hn2 ho2 hb2
      refine hK.out _ _ ?_ (fun hHeld => ?_)
      · exact ⟨k0, k1⟩
      clear hK K
      try simp only [List.getElem_toArray, List.getElem_cons_succ, List.getElem_cons_zero, Act.put, List.setIfInBounds_toArray, List.set_cons_zero, List.set_cons_succ]
      refine wpAnyH_ready (rs := [7]) (by kernel_rfl) (by simp) ?_
      refine AllReadyH.cons rfl (fun K hK => ?_) AllReadyH.nil
      clear hHeld
      go_simp
      have HB3 := Lib.hid (below_alloc v2 (.cells #[.slice pa nk ca, .slice p1 n1 c1, .slice p2 n2 c2] 35))
      have hs3 := HB3.out.size
      have z0 : (v2.alloc (.cells #[.slice pa nk ca, .slice p1 n1 c1, .slice p2 n2 c2] 35)).cell? ⟨v2.heap.size, 0, none⟩ = some (.slice pa nk ca) := cell_new _ _ _ rfl rfl
      have z1 : (v2.alloc (.cells #[.slice pa nk ca, .slice p1 n1 c1, .slice p2 n2 c2] 35)).cell? ⟨v2.heap.size, 1, none⟩ = some (.slice p1 n1 c1) := cell_new _ _ _ rfl rfl
      have z2 : (v2.alloc (.cells #[.slice pa nk ca, .slice p1 n1 c1, .slice p2 n2 c2] 35)).cell? ⟨v2.heap.size, 2, none⟩ = some (.slice p2 n2 c2) := cell_new _ _ _ rfl rfl
      have hlt3 := size_alloc' v2 (.cells #[.slice pa nk ca, .slice p1 n1 c1, .slice p2 n2 c2] 35)
      have q0 := cell_below HB3.out k0 (by omega)
      have q1 := cell_below HB3.out k1 (by omega)
      generalize hw3 : v2.alloc (.cells #[.slice pa nk ca, .slice p1 n1 c1, .slice p2 n2 c2] 35) = v3 at *
      clear hw3
      refine hK.out _ _ ?_ (fun hHeld => ?_)
      · exact ⟨q0, q1⟩
      clear hK K
      try simp only [List.getElem_toArray, List.getElem_cons_succ, List.getElem_cons_zero, Act.put, List.setIfInBounds_toArray, List.set_cons_zero, List.set_cons_succ]
      refine wpAnyH_ready (rs := [8]) (by kernel_rfl) (by simp) ?_
      refine AllReadyH.cons rfl (fun K hK => ?_) AllReadyH.nil
      clear hHeld
      go_simp
      have HKa := Lib.hid (HO.out.below (HC2.out.trans (HB3.out.mono (by omega))))
      have HKb := Lib.hid (HK1b.out.below HB3.out)
      have HKc := Lib.hid (HK2.out.below HB3.out)
      have ha := HKa.out.cellsAt
      have hb' := (show OwnK wr.drew.heap.size v1.heap.size v3 (.slice p1 n1 c1) _ cs1 by have := HKb.out; rw [← HN1.out] at this; exact this).cellsAt
      have hc' := (show OwnK v1.heap.size v2.heap.size v3 (.slice p2 n2 c2) _ cs2 by have := HKc.out; rw [← HN2.out] at this; exact this).cellsAt
      have la := flatJ_length _ _ HKa.out.len
      have lb := flatJ_length _ _ HKb.out.len
      have lc := flatJ_length _ _ HKc.out.len
      rw [HPL.out] at la
      rw [← HN1.out] at lb
      rw [← HN2.out] at lc
      have hn1b : n1 ≤ 17 := by rw [HN1.out, stAt_length]; exact hb17a
      have hn2b : n2 ≤ 17 := by rw [HN2.out, stAt_length]; exact hb17b
      refine (concatJ v2.heap.size 3 pa _ nk ca p1 _ n1 c1 p2 _ n2 c2 v3 ha hb' hc' HKa.out.one HKb.out.one HKc.out.one la lb lc (by omega) (by omega) (by omega) z0 z1 z2 hlt3).mono ?_
      rintro e v4 ⟨u4, rfl, ho4, hb4⟩
      have HB4 := Lib.hid hb4
      have HO4 := Lib.hid ho4
      have hs4 := hb4.size
      have r0 := cell_below hb4 q0 (by omega)
      have r1 := cell_below hb4 q1 (by omega)
      clear ho4 hb4 ha hb' hc' la lb lc
      refine hK.out _ _ ?_ (fun hHeld => ?_)
      · exact ⟨r0, r1⟩
      clear hK K
      try simp only [List.getElem_toArray, List.getElem_cons_succ, List.getElem_cons_zero, Act.put, List.setIfInBounds_toArray, List.set_cons_zero, List.set_cons_succ]
      refine wpAnyH_take (i := 9) (v := ?_) rfl (by kernel_rfl) (by kernel_rfl) (by kernel_rfl) (fun _ _ _ h => h) (Or.inl ⟨by rfl, ?_⟩) (by assumption) ?_
      rotate_left
      · intro w9 hSw; (try dsimp only at hSw); go_simp; try with_reducible rfl
      try simp only [List.getElem_toArray, List.getElem_cons_succ, List.getElem_cons_zero, Act.put, List.setIfInBounds_toArray, List.set_cons_zero, List.set_cons_succ]
      refine wpAnyH_done (by kernel_rfl) ?_ _
      refine NoPanic.normal ?_
      clear hHeld
      have HFIN := Lib.hid (show OwnK w2.heap.size v4.heap.size v4 u4 (stumpTo rows n (k + 1)) (cs ++ cs1 ++ cs2) from by
        have e : stumpTo rows n (k + 1) = stumpTo rows n k ++ stAt n k 1 (bnds rows k 1) ++ stAt n k (-1) (bnds rows k (-1)) := by rw [List.append_assoc]; rfl
        rw [e]
        refine ⟨?_, fun g hg => (HO4.out.lt g hg).2, ?_⟩
        · have h1 := HO4.out
          rw [List.length_append, List.length_append, HPL.out, ← HN1.out, ← HN2.out, flatJ_append _ _ _ _ (by rw [List.length_append, List.length_append, HKa.out.len, HKb.out.len]), flatJ_append _ _ _ _ HKa.out.len]
          exact ownsRow_base h1 (fun g hg => Nat.le_trans (by omega) (h1.lt g hg).1)
        · rw [List.map_append, List.map_append]
          have hd : wr.drew.heap.size = wr.heap.size := rfl
          refine (RowsOf.append (RowsOf.append (HKa.out.2.2.below HB4.out) ((HKb.out.2.2.below HB4.out).mono (Nat.le_of_eq hd.symm) (Nat.le_refl _)) hsz hs1) (HKc.out.2.2.below HB4.out) (by omega) hs2).mono (Nat.le_refl _) (by omega))
      have HBF := Lib.hid (HBl.out.trans ((HC2.out.trans (HB3.out.mono (by omega)) |>.trans (HB4.out.mono (by omega))).mono hsz))
      go_wp2_with fail
      go_roundw
      case rel => exact ⟨k + 1, _, by omega, by go_num, HFIN.out, HBF.out⟩
      case measure => simp [intOf]; omega
    · obtain rfl : k = n := by omega
      have HF := Lib.hid (show RetJB (stumpL rows) true w (.returned (.tuple #[u4, .bool true])) wr from ⟨u4, rfl, by rw [HSL.out]; exact (show OwnJ w2.heap.size wr.heap.size wr u4 _ from ⟨cs, hown⟩).mono HB2.out.size (Nat.le_refl _), HB2.out.trans (hbel.mono HB2.out.size)⟩)
      clear hown hbel
      go_wp2_with fail
      go_ret2
      exact HF.out
end Go.Proofs.Ythohnnobahcdpaa.stmo
