/- The walks of the lists of all lists of labels: the program's and the model's. -/
import Derived.Test.YtncidajjeccbkaaTraceP
import Derived.Test.YtncidajjeccbkaaSetsN
import Derived.Test.YtncidajjeccbkaaOwnG
import Derived.Test.YtncidajjeccbkaaShelf
import Derived.Shelf.Slices.Reverse
import Derived.Lib.RowBridge
namespace Go.Proofs.Ytncidajjeccbkaa.labw
open Go.RowKit own pp nums bitn setcmp setord cls tracep setsn
set_option linter.unusedVariables false
set_option linter.unusedSimpArgs false

/-- A row's cells stored one behind the other. -/
theorem own_cells {base g n cap : Nat} {e : TypeId} : ∀ (vs : List Value) (o : Nat) (xs : List Value) (w : World), w.ownsRow base e 1 (.slice (some ⟨g, 0, none⟩) n cap) n xs → o + vs.length ≤ n → (w.setCells g o vs).ownsRow base e 1 (.slice (some ⟨g, 0, none⟩) n cap) n (xs.take o ++ vs ++ xs.drop (o + vs.length))
  | [], o, xs, w, h, _ => by
    rw [List.append_nil, List.length_nil, Nat.add_zero, List.take_append_drop]
    exact h
  | v :: r, o, xs, w, h, hl => by
    rw [List.length_cons] at hl
    have hx := h.1
    have h2 := own_cells r (o + 1) (xs.set o v) (w.setCell ⟨g, o, none⟩ v) (h.stored o v).1 (by omega)
    have e1 : (xs.set o v).take (o + 1) ++ r ++ (xs.set o v).drop (o + 1 + r.length) = xs.take o ++ (v :: r) ++ xs.drop (o + (r.length + 1)) := by
      have ho : o < xs.length := by omega
      rw [List.drop_set_of_lt (by omega), List.take_set, List.take_succ_eq_append_getElem ho, List.set_append_right _ _ (by rw [List.length_take]; omega), List.length_take, Nat.min_eq_left (by omega), Nat.sub_self, List.set_cons_zero, List.append_assoc, List.append_assoc]
      rw [show o + 1 + r.length = o + (r.length + 1) by omega]
      simp
    rw [e1] at h2
    exact h2
theorem own_whole {base g n cap : Nat} {e : TypeId} {w : World} {xs vs : List Value} (h : w.ownsRow base e 1 (.slice (some ⟨g, 0, none⟩) n cap) n xs) (hl : vs.length = n) : (w.setCells g 0 vs).ownsRow base e 1 (.slice (some ⟨g, 0, none⟩) n cap) n vs := by
  have h2 := own_cells vs 0 xs w h (by omega)
  have hx := h.1
  rw [List.take_zero, List.nil_append, List.drop_eq_nil_of_le (by omega), List.append_nil] at h2
  exact h2
theorem below_cells {B g : Nat} (hg : B ≤ g) : ∀ (vs : List Value) (o : Nat) (w a : World), Below B a w → Below B a (w.setCells g o vs)
  | [], _, _, _, h => h
  | v :: r, o, w, a, h => below_cells hg r (o + 1) (w.setCell ⟨g, o, none⟩ v) a (h.setCell hg _)
theorem rev_any (lo hi g n cap : Nat) (l : List Int) (w : World) (h : OwnI lo hi w (.slice (some ⟨g, 0, none⟩) n cap) l) (hn : n = l.length) (h8 : l.length ≤ 8) :
    Calls Try.prog 91 #[.slice (some ⟨g, 0, none⟩) n cap] w (fun e w' => e = .returned (.tuple #[]) ∧ OwnI lo hi w' (.slice (some ⟨g, 0, none⟩) n cap) l.reverse ∧ Below lo w w') := by
  subst hn
  have hlt := h.lt rfl
  have hH := Go.Lib.holds_of_ints (w := w) (b := g) (off := 0) (n := l.length) (zs := l) (Nat.le_refl _) (fun j hj => by
    rw [Nat.zero_add, h.1.cellAt j (by omega), List.getElem?_map, List.getElem?_eq_getElem hj, List.getD_eq_getElem?_getD, List.getElem?_eq_getElem hj]; rfl) (fun j hj => by rw [Nat.zero_add]; exact h.1.frozenAt j)
  rw [List.take_length] at hH
  refine (Try.slices_Reverse_int g 0 cap l w hH (by omega)).mono ?_
  rintro e w' ⟨rfl, q, rfl⟩
  rw [Go.Lib.putRow_eq_setCells (Value.int .i64) w g 0 l.toArray l.reverse q hH (by simp)]
  have ho : (w.drewN q).ownsRow lo 3 1 (.slice (some ⟨g, 0, none⟩) l.length cap) l.length (l.map (Value.int .i64)) := h.1
  have h3 := own_whole ho (vs := l.reverse.map (Value.int .i64)) (by simp)
  refine ⟨rfl, ⟨by rw [List.length_reverse]; exact h3, h.2⟩, below_cells hlt.1 _ _ _ _ (ints.below_drewN (Below.refl _ _) q)⟩
/-- The first k numbers turned. -/
def mapTo (f : Int → Int) (l : List Int) (k : Nat) : List Int := (l.take k).map f ++ l.drop k
theorem mapTo_length (f : Int → Int) (l : List Int) (k : Nat) (h : k ≤ l.length) : (mapTo f l k).length = l.length := by unfold mapTo; simp; omega
theorem mapTo_getD (f : Int → Int) (l : List Int) (k : Nat) (h : k < l.length) : (mapTo f l k).getD k 0 = l.getD k 0 := by
  unfold mapTo
  rw [List.getD_eq_getElem?_getD, List.getElem?_append_right (by simp; omega), List.length_map, List.length_take, Nat.min_eq_left (by omega), Nat.sub_self, List.getElem?_drop, List.getD_eq_getElem?_getD, Nat.add_zero]
theorem mapTo_succ (f : Int → Int) (l : List Int) (k : Nat) (h : k < l.length) : (mapTo f l k).set k (f (l.getD k 0)) = mapTo f l (k + 1) := by
  unfold mapTo
  rw [List.set_append_right _ _ (by simp; omega), List.length_map, List.length_take, Nat.min_eq_left (by omega), Nat.sub_self, List.drop_eq_getElem_cons h, List.set_cons_zero, List.take_succ_eq_append_getElem h, List.map_append, List.append_assoc, List.getD_eq_getElem?_getD, List.getElem?_eq_getElem h]
  rfl
theorem mapTo_zero (f : Int → Int) (l : List Int) : mapTo f l 0 = l := by unfold mapTo; simp
theorem mapTo_all (f : Int → Int) (l : List Int) : mapTo f l l.length = l.map f := by unfold mapTo; simp
/-- A bit as a label. -/
def sg (x : Int) : Int := 2 * x - 1
theorem lab_rev (n k : Nat) : ((bitw.bitsTo k n).reverse).map sg = labL n k := by
  apply List.ext_getElem?
  intro i
  by_cases hi : i < n
  · have h1 : (bitw.bitsTo k n).length = n := bitw.bitsTo_length _ _
    rw [List.getElem?_map, List.getElem?_reverse (by omega), h1]
    have h2 := edge.bits_digit k n (n - 1 - i) (by omega)
    rw [List.getD_eq_getElem?_getD, List.getElem?_eq_getElem (by omega)] at h2
    rw [List.getElem?_eq_getElem (by omega)]
    unfold labL
    rw [List.getElem?_map, List.getElem?_eq_getElem (by simpa using hi)]
    simp only [Option.getD_some] at h2
    simp only [Option.map_some, List.getElem_range, h2]
    rfl
  · rw [List.getElem?_eq_none (by rw [List.length_map, List.length_reverse, bitw.bitsTo_length]; omega), List.getElem?_eq_none (by rw [lab_length]; omega)]
set_option maxRecDepth 100000 in
set_option maxHeartbeats 1000000 in
theorem bits_row (n m : Nat) (w : World) (hn : n ≤ 8) (hm : m < 256) :
    Calls Try.prog 90 #[.int .i64 n, .int .i64 m] w (fun e w' => e = .returned (.slice (some ⟨w.heap.size, 0, none⟩) n n) ∧ OwnI w.heap.size w'.heap.size w' (.slice (some ⟨w.heap.size, 0, none⟩) n n) (bitw.bitsTo m n) ∧ Below w.heap.size w w') := by
  obtain ⟨i0, hi, hz0, hz1, hz2⟩ := info_parts mk.infoInt
  go_enter Try.func90, Try.ntmps90
  go_wp2_with (refine wpList_make_full _ rfl _ _ 30 rfl w.heap.size 3 i0 (.int .i64 0) 1 Try.underlying30 hi hz0 hz1 .i64 .i64 _ _ n rfl rfl rfl rfl (by rw [hz2]; omega) (by unfold maxLen; omega) (Nat.le_refl _) ?_; intro w1 hown1 hgrow1; refine Hid.out ?_)
  refine Lib.hid ?_
  have hb1 : Below w.heap.size w w1 := (Below.refl _ _).grown hgrow1 (Nat.le_refl _) (by simp)
  rw [show (Value.int .i64 0).cells = #[Value.int .i64 0] from rfl, Nat.mul_one, toList_madeCells_one, ← bitw.filled_zero m] at hown1
  go_wp2_with fail
  go_loopw [11] (fun i wr => ∃ k : Nat, k ≤ n ∧ i = .int .i64 k ∧ wr.ownsRow w.heap.size 3 1 (.slice (some ⟨w.heap.size, 0, none⟩) n n) n (bitw.filled m n k) ∧ Below w.heap.size w wr) (fun i _ => n - (intOf i).toNat)
  case atStart => exact ⟨0, Nat.zero_le _, rfl, hown1, hb1⟩
  case round =>
    obtain ⟨k, hk, rfl, hown, hbel⟩ := hrel
    clear hown1 hgrow1 hb1
    have HB := Lib.hid hbel
    clear hbel
    by_cases hlt : k < n
    · have hcell : wr.cell? ⟨w.heap.size, k, none⟩ = some (.int .i64 0) := by rw [hown.cellAt k (by omega), bitw.filled_at m n k hlt]
      have hfro := hown.frozenAt k
      have hst := hown.stored k (.int .i64 ((m / 2 ^ k % 2 : Nat) : Int))
      rw [bitw.filled_succ m n k hlt] at hst
      have HS := Lib.hid hst
      have hbit : Go.bits .and .i64 ((m : Int) / 2 ^ k) 1 = ((m / 2 ^ k % 2 : Nat) : Int) := bitn.dg_at m k (by omega)
      have hk4 : k < 8 := by omega
      clear hst hown
      generalize ((m / 2 ^ k % 2 : Nat) : Int) = x at *
      go_wp2_with fail
      clear hbit
      go_roundw
      case rel => exact ⟨k + 1, by omega, by go_num, HS.out.1, HB.out.setCell (Nat.le_refl _) _⟩
      case measure => simp [intOf]; omega
    · obtain rfl : k = n := by omega
      rw [bitw.filled_all] at hown
      have HO := Lib.hid hown
      clear hown
      go_wp2_with fail
      go_ret
      exact ⟨rfl, OwnI.of (by rw [bitw.bitsTo_length]; exact HO.out), HB.out⟩
set_option maxRecDepth 100000 in
set_option maxHeartbeats 4000000 in
theorem impl_lists (n : Nat) (w : World) (h8 : n ≤ 8) :
    Calls Try.prog 57 #[.int .i64 n] w (MadeG (allL n) w) := by
  obtain ⟨i0, hi, hz0, hz1, hz2⟩ := info_parts setsn.infoSl
  have hp12 := bits8.pow8 h8
  have HPW := Lib.hid (show ((2 : Int) ^ n) = ((2 ^ n : Nat) : Int) from by simp)
  have HGD := Lib.hid (fun k (hk : k < 2 ^ n) => allL_getD n k hk)
  have HBT := Lib.hid (fun (k : Nat) (W : World) (hk : k < 256) => bits_row n k W h8 hk)
  have HLR := Lib.hid (fun k => lab_rev n k)
  have HBL := Lib.hid (fun k => bitw.bitsTo_length k n)
  have HAL := Lib.hid (allL_length n)
  have HB01 := Lib.hid (fun k i (h : i < n) => show (bitw.bitsTo k n).reverse.getD i 0 = 0 ∨ (bitw.bitsTo k n).reverse.getD i 0 = 1 from by
    have h1 := HBL.out k
    have h2 := edge.bits_digit k n (n - 1 - i) (by omega)
    rw [List.getD_eq_getElem?_getD, List.getElem?_reverse (by omega), h1, ← List.getD_eq_getElem?_getD, h2]
    omega)
  generalize allL n = A at *
  obtain ⟨N, hN⟩ : ∃ N : Nat, 2 ^ n = N := ⟨_, rfl⟩
  rw [hN] at hp12 HPW HAL HGD
  clear hN
  have hsh : (2 : Int) ^ n = (N : Int) := HPW.out
  have hN8 : (N : Int) ≤ 256 := by omega
  go_enter Try.func57, Try.ntmps57
  go_wp2_with (refine wpList_make_full _ rfl _ _ 22 rfl w.heap.size 30 i0 (.slice none 0 0) 1 Try.underlying22 hi hz0 hz1 .i64 .i64 _ _ N rfl rfl rfl rfl (by rw [hz2]; omega) (by unfold maxLen; omega) (Nat.le_refl _) ?_; intro w1 hown1 hgrow1; refine Hid.out ?_)
  refine Lib.hid ?_
  have hb1 : Below w.heap.size w w1 := (Below.refl _ _).grown hgrow1 (Nat.le_refl _) (by simp)
  rw [show (Value.slice none 0 0).cells = #[Value.slice none 0 0] from rfl, Nat.mul_one, toList_madeCells_one] at hown1
  have hpart : OwnPart w.heap.size w.heap.size w1 A 0 := OwnPart.start (by rw [HAL.out]; exact hown1)
  clear hsh hN8 hown1 hgrow1
  go_wp2_with fail
  go_loopw [13] (fun z wr => ∃ k : Nat, k ≤ N ∧ z = .int .i64 k ∧ OwnPart w.heap.size w.heap.size wr A k ∧ Below w.heap.size w wr) (fun z _ => N - (intOf z).toNat)
  case atStart => exact ⟨0, Nat.zero_le _, rfl, hpart, hb1⟩
  case round =>
    obtain ⟨k, hk, rfl, hpt, hbel⟩ := hrel
    clear hpart hb1
    by_cases hlt : k < N
    · have HPT := Lib.hid hpt
      have HBl := Lib.hid hbel
      have hsz := hbel.size
      have HBk := Lib.hid (HBT.out k wr (by omega))
      have HAk := Lib.hid (HGD.out k hlt)
      have HLk := Lib.hid (HLR.out k)
      have HBLk := Lib.hid (HBL.out k)
      have H01 := Lib.hid (HB01.out k)
      have i1 : (0 : Int) ≤ (k : Int) := by omega
      have i2 : (k : Int) < (N : Int) := by omega
      have hg0 : w.heap.size < wr.heap.size := by
        obtain ⟨cs, h1, _⟩ := hpt
        exact (h1.lt _ rfl).2
      clear hpt hbel
      generalize bitw.bitsTo k n = bs at *
      go_wp2_with fail
      refine HBk.out.mono ?_
      rintro e w2 ⟨rfl, ho2, hb2⟩
      obtain ⟨g, hgw⟩ : ∃ g : Nat, g = wr.heap.size := ⟨_, rfl⟩
      rw [← hgw] at ho2 ⊢
      have hg9 : g ≤ wr.heap.size ∧ wr.heap.size ≤ g := by omega
      clear hgw
      have HRV := Lib.hid (rev_any wr.heap.size w2.heap.size g n n bs w2 (ho2.mono hg9.2 (Nat.le_refl _)) HBLk.out.symm (by rw [HBLk.out]; exact h8))
      have HB2 := Lib.hid hb2
      clear ho2 hb2 HBk
      go_wp2_with fail
      refine HRV.out.mono ?_
      rintro e w3 ⟨rfl, ho3, hb3⟩
      have HB3 := Lib.hid (HB2.out.trans hb3)
      have hs2 := HB2.out.size
      have hs3 := HB3.out.size
      have HRL := Lib.hid (show bs.reverse.length = n by rw [List.length_reverse, HBLk.out])
      generalize bs.reverse = rs at *
      have hlt3 := ho3.lt rfl
      have hown3 : w3.ownsRow wr.heap.size 3 1 (.slice (some ⟨g, 0, none⟩) n n) n ((mapTo sg rs 0).map (Value.int .i64)) := by
        have h7 := ho3.1
        rw [HRL.out] at h7
        rw [mapTo_zero]; exact h7
      clear ho3 hb3 HRV
      go_wp2_with fail
      obtain ⟨wo, hwo⟩ : ∃ wo : World, wo = wr := ⟨_, rfl⟩
      subst hwo
      go_loopw [23] (fun z wr => ∃ j : Nat, j ≤ n ∧ z = .int .i64 j ∧ wr.ownsRow wo.heap.size 3 1 (.slice (some ⟨g, 0, none⟩) n n) n ((mapTo sg rs j).map (Value.int .i64)) ∧ Below wo.heap.size wo wr ∧ w3.heap.size ≤ wr.heap.size) (fun z _ => n - (intOf z).toNat)
      case atStart => exact ⟨0, Nat.zero_le _, rfl, hown3, HB3.out, Nat.le_refl _⟩
      case round =>
        obtain ⟨j, hj, rfl, hown, hbel, hszr⟩ := hrel
        clear hown3
        by_cases hltj : j < n
        · have hcell : wr.cell? ⟨g, j, none⟩ = some (.int .i64 (rs.getD j 0)) := by
            rw [hown.cellAt j (by omega), ← mapTo_getD sg rs j (by rw [HRL.out]; exact hltj), List.getElem?_map, List.getD_eq_getElem?_getD]
            have h7 : j < (mapTo sg rs j).length := by rw [mapTo_length _ _ _ (by rw [HRL.out]; omega), HRL.out]; exact hltj
            rw [List.getElem?_eq_getElem h7]; rfl
          have hfro := hown.frozenAt j
          have hst := (hown.stored j (.int .i64 (sg (rs.getD j 0)))).1
          rw [← List.map_set, mapTo_succ _ _ _ (by rw [HRL.out]; exact hltj)] at hst
          have HST := Lib.hid hst
          have HBl2 := Lib.hid hbel
          have h01 := H01.out j hltj
          have j1 : (0 : Int) ≤ (j : Int) := by omega
          have j2 : (j : Int) < (n : Int) := by omega
          have HSG := Lib.hid (show sg (rs.getD j 0) = 2 * rs.getD j 0 - 1 from rfl)
          rw [HSG.out] at HST
          clear hst hown hbel HSG
          generalize rs.getD j 0 = x at *
          have e1 : IntKind.i64.wrap (2 * x) = 2 * x := IntWalk.i64_in _ (by omega)
          have e2 : IntKind.i64.wrap (2 * x - 1) = 2 * x - 1 := IntWalk.i64_in _ (by omega)
          go_wp2_with fail
          go_roundw
          case rel => exact ⟨j + 1, by omega, by go_num, HST.out, HBl2.out.setCell hlt3.1 _, by rw [size_set]; exact hszr⟩
          case measure => simp [intOf]; omega
        · obtain rfl : j = n := by omega
          have hown2 : wr.ownsRow wo.heap.size 3 1 (.slice (some ⟨g, 0, none⟩) j j) j ((A.getD k []).map (Value.int .i64)) := by
            have h7 := hown
            rw [show mapTo sg rs j = rs.map sg from by have := mapTo_all sg rs; rw [HRL.out] at this; exact this, HLk.out] at h7
            rw [HAk.out]; exact h7
          have hal : (A.getD k []).length = j := by rw [HAk.out, lab_length]
          have hoi : OwnI wo.heap.size wr.heap.size wr (.slice (some ⟨g, 0, none⟩) j j) (A.getD k []) := ⟨by rw [hal]; exact hown2, fun g9 e => (hown2.lt g9 e).2⟩
          obtain ⟨hc9, hf9, hp9⟩ := HPT.out.store (by rw [HAL.out]; exact hlt) hbel hoi
          have HPN := Lib.hid hp9
          have HBn := Lib.hid (show Below w.heap.size w (wr.setCell ⟨w.heap.size, k, none⟩ (.slice (some ⟨g, 0, none⟩) j j)) from (HBl.out.trans (hbel.mono hsz)).setCell (Nat.le_refl _) _)
          clear hown hown2 hal hoi hp9 hbel
          go_wp2_with fail
          go_roundw
          case rel => exact ⟨k + 1, by omega, by go_num, HPN.out, HBn.out⟩
          case measure => simp [intOf]; omega
    · obtain rfl : k = N := by omega
      have hdone := OwnPart.done (show OwnPart w.heap.size w.heap.size wr A A.length by rw [HAL.out]; exact hpt)
      have HF := Lib.hid (show MadeG A w (.returned (.slice (some ⟨w.heap.size, 0, none⟩) A.length A.length)) wr from ⟨_, rfl, hdone, hbel⟩)
      rw [HAL.out] at HF
      clear hpt hbel hdone
      go_wp2_with fail
      go_ret
      exact HF.out
end Go.Proofs.Ytncidajjeccbkaa.labw
