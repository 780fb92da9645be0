/- The walk of the library's join of any number of lists of planes, none empty. -/
import Derived.Test.YtkbcofgigfnfaabConcJ
import Derived.Test.YtkbcofgigfnfaabNetL
namespace Go.Proofs.Ytkbcofgigfnfaab.concl
open Go.RowKit own stmp concj
set_option linter.unusedVariables false
set_option linter.unusedSimpArgs false

def sumN (n : Nat → Nat) : Nat → Nat
  | 0 => 0
  | k + 1 => sumN n k + n k
def catV (V : Nat → List Value) : Nat → List Value
  | 0 => []
  | k + 1 => catV V k ++ V k
theorem sumN_mono (n : Nat → Nat) (i k : Nat) (h : i ≤ k) : sumN n i ≤ sumN n k := by
  induction k with
  | zero => obtain rfl : i = 0 := by omega
            exact Nat.le_refl _
  | succ k ih =>
    by_cases e : i = k + 1
    · rw [e]; exact Nat.le_refl _
    · have := ih (by omega)
      show sumN n i ≤ sumN n k + n k
      omega
theorem sumN_congr (n m : Nat → Nat) (k : Nat) (h : ∀ i, i < k → n i = m i) : sumN n k = sumN m k := by
  induction k with
  | zero => rfl
  | succ k ih =>
    show sumN n k + n k = sumN m k + m k
    rw [ih (fun i hi => h i (by omega)), h k (by omega)]
/-- The values of planes: headers of weights and bounds. -/
def Told (w : World) (vs : List Value) (l : List (List Int × Int)) : Prop :=
  vs.length = l.length * 2 ∧ ∀ k, k < l.length → ∃ p c, vs[k * 2]? = some (.slice p (l.getD k ([], 0)).1.length c) ∧ vs[k * 2 + 1]? = some (.int .i64 (l.getD k ([], 0)).2) ∧ (l.getD k ([], 0)).1.length ≤ c ∧ ints.Reads .i64 w p (l.getD k ([], 0)).1
theorem Told.nil (w : World) : Told w [] [] := ⟨rfl, fun k hk => by simp at hk⟩
theorem Told.below {w w' : World} {vs : List Value} {l : List (List Int × Int)} (h : Told w vs l) (hb : Below w.heap.size w w') : Told w' vs l :=
  ⟨h.1, fun k hk => by
    obtain ⟨p, c, h1, h2, h3, h4⟩ := h.2 k hk
    exact ⟨p, c, h1, h2, h3, h4.below hb⟩⟩
theorem Told.append {w : World} {vs us : List Value} {l m : List (List Int × Int)} (h : Told w vs l) (g : Told w us m) : Told w (vs ++ us) (l ++ m) := by
  refine ⟨by rw [List.length_append, List.length_append, h.1, g.1]; omega, fun k hk => ?_⟩
  by_cases e : k < l.length
  · obtain ⟨p, c, h1, h2, h3, h4⟩ := h.2 k e
    have hg : (l ++ m).getD k ([], 0) = l.getD k ([], 0) := by rw [List.getD_eq_getElem?_getD, List.getD_eq_getElem?_getD, List.getElem?_append_left e]
    rw [hg]
    have := h.1
    exact ⟨p, c, by rw [List.getElem?_append_left (by omega)]; exact h1, by rw [List.getElem?_append_left (by omega)]; exact h2, h3, h4⟩
  · rw [List.length_append] at hk
    obtain ⟨p, c, h1, h2, h3, h4⟩ := g.2 (k - l.length) (by omega)
    have hg : (l ++ m).getD k ([], 0) = m.getD (k - l.length) ([], 0) := by rw [List.getD_eq_getElem?_getD, List.getD_eq_getElem?_getD, List.getElem?_append_right (by omega)]
    rw [hg]
    have := h.1
    exact ⟨p, c, by rw [List.getElem?_append_right (by omega), show k * 2 - vs.length = (k - l.length) * 2 by omega]; exact h1, by rw [List.getElem?_append_right (by omega), show k * 2 + 1 - vs.length = (k - l.length) * 2 + 1 by omega]; exact h2, h3, h4⟩
theorem Told.one {w : World} {vs : List Value} {l : List (List Int × Int)} (h : Told w vs l) : ∀ u ∈ vs, u.oneCell' = true := by
  intro u hu
  obtain ⟨j, hj, rfl⟩ := List.mem_iff_getElem.1 hu
  obtain ⟨i, rfl | rfl⟩ : ∃ i, j = i * 2 ∨ j = i * 2 + 1 := ⟨j / 2, by omega⟩
  · obtain ⟨p, c, h1, _⟩ := h.2 i (by have := h.1; omega)
    rw [List.getElem?_eq_getElem hj] at h1
    rw [Option.some.inj h1]; rfl
  · obtain ⟨p, c, _, h1, _⟩ := h.2 i (by have := h.1; omega)
    rw [List.getElem?_eq_getElem hj] at h1
    rw [Option.some.inj h1]; rfl
theorem told_of {w : World} {a : Option Addr} {l : List (List Int × Int)} (h : ReadsJ w a l) : ∃ vs, CellsAt w a vs ∧ Told w vs l := by
  rcases h with rfl | ⟨b, off, rfl, hb, hc⟩
  · exact ⟨[], .inl rfl, Told.nil w⟩
  · obtain ⟨q, hq⟩ := Go.Deep.choose_lt (α := Option Addr × Nat) (p := fun k x => w.cell? ⟨b, off + k * 2, none⟩ = some (.slice x.1 (l.getD k ([], 0)).1.length x.2) ∧ w.cell? ⟨b, off + k * 2 + 1, none⟩ = some (.int .i64 (l.getD k ([], 0)).2) ∧
      (l.getD k ([], 0)).1.length ≤ x.2 ∧ ints.Reads .i64 w x.1 (l.getD k ([], 0)).1) (n := l.length) (fun k hk => by
        obtain ⟨p, c, h1, h2, h3, h4⟩ := hc k hk
        exact ⟨(p, c), h1, h2, h3, h4⟩)
    have hl : ((List.range l.length).map fun k => Value.slice (q k).1 (l.getD k ([], 0)).1.length (q k).2).length = l.length := by simp
    have hx : ∀ k, k < l.length → ((List.range l.length).map fun k => Value.slice (q k).1 (l.getD k ([], 0)).1.length (q k).2).getD k undef = Value.slice (q k).1 (l.getD k ([], 0)).1.length (q k).2 := fun k hk => by
      rw [List.getD_eq_getElem?_getD]; simp [hk]
    refine ⟨flatJ ((List.range l.length).map fun k => Value.slice (q k).1 (l.getD k ([], 0)).1.length (q k).2) l, .inr ⟨b, off, rfl, hb, fun j u hu => ?_⟩, flatJ_length _ _ hl, fun k hk => ?_⟩
    · have hj : j < (flatJ ((List.range l.length).map fun k => Value.slice (q k).1 (l.getD k ([], 0)).1.length (q k).2) l).length := (List.getElem?_eq_some_iff.1 hu).1
      rw [flatJ_length _ _ hl] at hj
      rw [Go.WideShapes.add_plain]
      obtain ⟨i, rfl | rfl⟩ : ∃ i, j = i * 2 ∨ j = i * 2 + 1 := ⟨j / 2, by omega⟩
      · rw [(flatJ_at _ _ hl i (by omega)).1, hx i (by omega)] at hu
        rw [← hu]
        exact (hq i (by omega)).1
      · rw [(flatJ_at _ _ hl i (by omega)).2] at hu
        rw [← hu, ← Nat.add_assoc]
        exact (hq i (by omega)).2.1
    · refine ⟨(q k).1, (q k).2, ?_, (flatJ_at _ _ hl k hk).2, (hq k hk).2.2.1, (hq k hk).2.2.2⟩
      rw [(flatJ_at _ _ hl k hk).1, hx k hk]
/-- A row that holds these values reads as the planes. -/
theorem reads_of {w : World} {lo : Nat} {v : Value} {n : Nat} {vs : List Value} {l : List (List Int × Int)} (h : w.ownsRow lo 56 2 v n vs) (ht : Told w vs l) (hn : n = l.length) : ∃ p c, v = .slice p l.length c ∧ ReadsJ w p l ∧ l.length ≤ c := by
  subst hn
  rcases h.2 with ⟨rfl, h0⟩ | ⟨g, cap, cur, rfl, hb, hh, hc, hm, hs, htk⟩
  · have : l = [] := List.length_eq_zero_iff.1 h0
    subst this
    exact ⟨none, 0, rfl, .inl rfl, Nat.le_refl _⟩
  · refine ⟨_, _, rfl, .inr ⟨g, 0, rfl, (Array.getElem?_eq_some_iff.1 hh).1, fun k hk => ?_⟩, hc⟩
    obtain ⟨p, c, h1, h2, h3, h4⟩ := ht.2 k hk
    have := ht.1
    rw [Nat.zero_add]
    refine ⟨p, c, ?_, ?_, h3, h4⟩
    · rw [h.cellAt (k * 2) (by omega)]; exact h1
    · rw [h.cellAt (k * 2 + 1) (by omega)]; exact h2

set_option maxRecDepth 100000 in
set_option maxHeartbeats 1600000 in
theorem concatN (b off K cc : Nat) (p : Nat → Option Addr) (n c : Nat → Nat) (V : Nat → List Value) (w : World) (hb : b < w.heap.size) (hK : K ≤ 1000) (hS : sumN n K ≤ 300000) (h1 : ∀ k, k < K → 1 ≤ n k)
    (HC : Hid (∀ k, k < K → w.cell? ⟨b, off + k, none⟩ = some (.slice (p k) (n k) (c k)) ∧ CellsAt w (p k) (V k) ∧ (V k).length = n k * 2 ∧ ∀ u ∈ V k, u.oneCell' = true)) :
    Calls Try.prog 90 #[.slice (some ⟨b, off, none⟩) K cc] w (fun e w' => ∃ v, e = .returned v ∧ w'.ownsRow w.heap.size 56 2 v (sumN n K) (catV V K) ∧ Below w.heap.size w w') := by
  obtain ⟨i0, hi, hz0, hz1, hz2⟩ := info_parts infoP
  have HGR := Lib.hid (growsJ (sumN n K) ((sumN n K : Nat) : Int) rfl (by omega) w)
  have HH := Lib.hid h1
  clear h1
  go_enter Try.func90, Try.ntmps90
  go_wp2_with fail
  go_loopw [3, 11] (fun s i wr => ∃ k : Nat, k ≤ K ∧ i = .int .i64 k ∧ s = .int .i64 ((sumN n k : Nat) : Int) ∧ w = wr) (fun _ i _ => K - (intOf i).toNat)
  case atStart => exact ⟨0, by omega, rfl, rfl, rfl⟩
  case round =>
    obtain ⟨k, hk, rfl, rfl, rfl⟩ := hrel
    by_cases hlt : k < K
    · have hc := (HC.out k hlt).1
      have HSS := Lib.hid (show sumN n (k + 1) = sumN n k + n k from rfl)
      have hle := sumN_mono n (k + 1) K (by omega)
      rw [HSS.out] at hle
      generalize sumN n k = s at *
      generalize n k = m at *
      generalize p k = q at *
      generalize c k = d at *
      go_wp2_with fail
      go_roundw
      case rel => exact ⟨k + 1, by omega, by go_num, by rw [HSS.out]; go_num, by first | rfl | trivial⟩
      case measure => simp [intOf]; omega
    · obtain rfl : k = K := by omega
      have HSum := Lib.hid (show sumN n k = sumN n k from rfl)
      go_wp2_with fail
      refine HGR.out.mono ?_
      rintro e w1 ⟨v, rfl, hown, hbw⟩
      have HOw := Lib.hid hown
      have HB1 := Lib.hid hbw
      have hs1 := hbw.size
      clear hown hbw
      go_wp2_with fail
      go_loopw [6, 27] (fun v i wr => ∃ j : Nat, j ≤ k ∧ i = .int .i64 j ∧ wr.ownsRow w.heap.size 56 2 v (sumN n j) (catV V j) ∧ Below w.heap.size w wr) (fun _ i _ => k - (intOf i).toNat)
      case atStart => exact ⟨0, by omega, rfl, HOw.out, HB1.out⟩
      case round =>
        obtain ⟨j, hj, rfl, hown, hbel⟩ := hrel
        by_cases hjl : j < k
        · obtain ⟨hc0, hca, hvl, hvo⟩ := HC.out j hjl
          replace hc0 := cell_below hbel hc0 hb
          have hv9 := hca.below hbel
          have HO := Lib.hid hown
          have HBl := Lib.hid hbel
          have hsz := hbel.size
          have hnj := HH.out j hjl
          have hle := sumN_mono n (j + 1) k (by omega)
          have HSS := Lib.hid (show sumN n (j + 1) = sumN n j + n j from rfl)
          have HCC := Lib.hid (show catV V (j + 1) = catV V j ++ V j from rfl)
          have HVL := Lib.hid hvl
          have HVO := Lib.hid hvo
          rw [HSS.out] at hle
          obtain ⟨b9, o9, hp9, hb9, hn9⟩ : ∃ b9 o9, p j = some ⟨b9, o9, none⟩ ∧ b9 < wr.heap.size ∧ ∀ i u, (V j)[i]? = some u → wr.cell? ((⟨b9, o9, none⟩ : Addr).add i) = some u := by
            rcases hv9 with h9 | h9
            · rw [h9] at hvl; simp at hvl; omega
            · exact h9
          rw [hp9] at hc0
          have HNW := Lib.hid hn9
          clear hown hbel hca hv9 hvl hvo hn9 hp9
          generalize sumN n j = s at *
          generalize catV V j = F at *
          generalize n j = m at *
          generalize V j = us at *
          generalize c j = d at *
          go_wp2_with (at_builtin; refine wpList_append_own _ rfl _ _ 110 rfl w.heap.size 56 i0 (.agg #[.slice none 0 0, .int .i64 0]) 2 32 Try.underlying110 hi hz0 hz1 hz2 rfl (by decide) _ _ _ rfl HO.out ⟨b9, o9, none⟩ m d us rfl HVL.out HNW.out HVO.out (by unfold maxLen; omega) (by omega) (by omega) ?_; intro v' w2 hown' hgrow _)
          have HB2 := Lib.hid (HBl.out.grown hgrow (by omega) (fun g e => (HO.out.lt g e).1))
          have HO2 := Lib.hid hown'
          clear hown' hgrow
          go_wp2_with fail
          go_roundw
          case rel => exact ⟨j + 1, by omega, by go_num, by rw [HSS.out, HCC.out]; exact HO2.out, HB2.out⟩
          case measure => simp [intOf]; omega
        · obtain rfl : j = k := by omega
          have HF := Lib.hid (show ∃ v, Ending.returned u6 = .returned v ∧ wr.ownsRow w.heap.size 56 2 v (sumN n j) (catV V j) ∧ Below w.heap.size w wr from ⟨u6, rfl, hown, hbel⟩)
          clear hown hbel
          go_wp2_with fail
          go_ret
          exact HF.out
theorem flat_len (ls : List (List (List Int × Int))) (k : Nat) (hk : k ≤ ls.length) : (ls.take k).flatten.length = sumN (fun i => (ls.getD i []).length) k := by
  induction k with
  | zero => rfl
  | succ k ih =>
    rw [take_snocL ls k (by omega), List.flatten_append, List.length_append, ih (by omega)]
    simp [sumN]
theorem told_cat {w : World} {ls : List (List (List Int × Int))} {V : Nat → List Value} (h : ∀ k, k < ls.length → Told w (V k) (ls.getD k [])) (k : Nat) (hk : k ≤ ls.length) : Told w (catV V k) (ls.take k).flatten := by
  induction k with
  | zero => exact Told.nil w
  | succ k ih =>
    rw [take_snocL ls k (by omega), List.flatten_append]
    have := (ih (by omega)).append (h k (by omega))
    simpa [catV] using this
set_option maxHeartbeats 1600000 in
/-- All planes of a list of lists, in order. -/
theorem concatL (a : Option Addr) (ls : List (List (List Int × Int))) (c : Nat) (w : World) (hr : ReadsL w a ls) (h0 : 1 ≤ ls.length) (hK : ls.length ≤ 1000) (h1 : ∀ k, k < ls.length → 1 ≤ (ls.getD k []).length) (hS : ls.flatten.length ≤ 300000) :
    Calls Try.prog 90 #[.slice a ls.length c] w (fun e w' => ∃ p c', e = .returned (.slice p ls.flatten.length c') ∧ ReadsJ w' p ls.flatten ∧ ls.flatten.length ≤ c' ∧ Below w.heap.size w w') := by
  rcases hr with rfl | ⟨b, off, rfl, hb, hc⟩
  · simp at h0
  have hfl := flat_len ls ls.length (Nat.le_refl _)
  rw [List.take_length] at hfl
  obtain ⟨q, hq⟩ := Go.Deep.choose_lt (α := Option Addr × Nat × List Value) (p := fun k x => w.cell? ⟨b, off + k, none⟩ = some (.slice x.1 (ls.getD k []).length x.2.1) ∧ CellsAt w x.1 x.2.2 ∧ Told w x.2.2 (ls.getD k [])) (n := ls.length) (fun k hk => by
    obtain ⟨p, c, h2, h3, h4⟩ := hc k hk
    obtain ⟨vs, h5, h6⟩ := told_of h4
    exact ⟨(p, c, vs), h2, h5, h6⟩)
  refine (concatN b off ls.length c (fun k => (q k).1) (fun k => (ls.getD k []).length) (fun k => (q k).2.1) (fun k => (q k).2.2) w hb hK (by rw [← hfl]; exact hS) h1 (Lib.hid fun k hk => ⟨(hq k hk).1, (hq k hk).2.1, (hq k hk).2.2.1, (hq k hk).2.2.one⟩)).mono ?_
  rintro e w' ⟨v, rfl, ho, hb'⟩
  have ht := told_cat (V := fun k => (q k).2.2) (fun k hk => (hq k hk).2.2) ls.length (Nat.le_refl _)
  rw [List.take_length] at ht
  obtain ⟨p, c', rfl, h7, h8⟩ := reads_of ho (ht.below hb') hfl.symm
  exact ⟨p, c', rfl, h7, h8, hb'⟩
end Go.Proofs.Ytkbcofgigfnfaab.concl
