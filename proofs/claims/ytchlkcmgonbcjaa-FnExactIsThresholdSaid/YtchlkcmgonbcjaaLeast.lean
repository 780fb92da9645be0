/- The walks of the model's least weights of a table and of its test of threshold tables. -/
import Derived.Test.YtchlkcmgonbcjaaParts
import Derived.Test.YtchlkcmgonbcjaaWts
import Derived.Test.YtchlkcmgonbcjaaRets
import Derived.BigQuiet
namespace Go.Proofs.Ytchlkcmgonbcjaa.least5
open Go.RowKit own pp nums range tab bitw parts wts
set_option linter.unusedVariables false
set_option linter.unusedSimpArgs false

/-- The best of the first i weights, and whether there is one. -/
def bs (n : Nat) (zs : List Int) (rows : List (List Int)) : Nat → List Int × Bool
  | 0 => ([], false)
  | i + 1 => if (bs n zs rows i).2 = true ∧ size (bs n zs rows i).1 ≤ size (rows.getD i []) then bs n zs rows i else if partsB n zs (rows.getD i []) = true then (rows.getD i [], true) else bs n zs rows i
theorem bs_keep {n i : Nat} {zs : List Int} {rows : List (List Int)} (h1 : (bs n zs rows i).2 = true) (h2 : size (bs n zs rows i).1 ≤ size (rows.getD i [])) : bs n zs rows (i + 1) = bs n zs rows i := by rw [bs, if_pos ⟨h1, h2⟩]
theorem bs_no {n i : Nat} {zs : List Int} {rows : List (List Int)} (h : partsB n zs (rows.getD i []) = false) : bs n zs rows (i + 1) = bs n zs rows i := by
  rw [bs]
  split
  · rfl
  · rw [if_neg (by rw [h]; simp)]
theorem bs_take {n i : Nat} {zs : List Int} {rows : List (List Int)} (h1 : ¬ ((bs n zs rows i).2 = true ∧ size (bs n zs rows i).1 ≤ size (rows.getD i []))) (h : partsB n zs (rows.getD i []) = true) : bs n zs rows (i + 1) = (rows.getD i [], true) := by rw [bs, if_neg h1, if_pos h]
theorem bs_found (n : Nat) (zs : List Int) (rows : List (List Int)) (i : Nat) : (bs n zs rows i).2 = true ↔ ∃ j, j < i ∧ partsB n zs (rows.getD j []) = true := by
  induction i with
  | zero => simp [bs]
  | succ i ih =>
    cases hp : partsB n zs (rows.getD i [])
    · rw [bs_no hp, ih]
      constructor
      · rintro ⟨j, hj, h⟩; exact ⟨j, by omega, h⟩
      · rintro ⟨j, hj, h⟩
        by_cases e : j = i
        · subst e; rw [hp] at h; cases h
        · exact ⟨j, by omega, h⟩
    · by_cases hk : (bs n zs rows i).2 = true ∧ size (bs n zs rows i).1 ≤ size (rows.getD i [])
      · rw [bs_keep hk.1 hk.2]
        exact ⟨fun _ => ⟨i, by omega, hp⟩, fun _ => hk.1⟩
      · rw [bs_take hk hp]
        exact ⟨fun _ => ⟨i, by omega, hp⟩, fun _ => rfl⟩
theorem bs_row (n : Nat) (zs : List Int) (rows : List (List Int)) (i : Nat) (hi : i ≤ rows.length) : (bs n zs rows i).1 = [] ∨ (bs n zs rows i).1 ∈ rows := by
  induction i with
  | zero => left; rfl
  | succ i ih =>
    have h1 := ih (by omega)
    rw [bs]
    split
    · exact h1
    · split
      · right
        show rows.getD i [] ∈ rows
        rw [List.getD_eq_getElem?_getD, List.getElem?_eq_getElem (by omega)]
        exact List.getElem_mem (by omega)
      · exact h1
theorem w3_row {n : Nat} {r : List Int} (h : r ∈ wts n) : W3 r := by
  intro i hi
  refine (wts_row h).2 _ ?_
  rw [List.getD_eq_getElem?_getD, List.getElem?_eq_getElem hi]
  exact List.getElem_mem hi
theorem w3_nil : W3 [] := fun i hi => by simp at hi
/-- A row of an own list of lists, as it is loaded. -/
theorem ownG_at {lo hi : Nat} {w : World} {a : Option Addr} {m c : Nat} {rows : List (List Int)} (h : OwnG lo hi w (.slice a m c) rows) {i : Nat} (hi' : i < rows.length) :
    ∃ b off p q, a = some ⟨b, off, none⟩ ∧ b < w.heap.size ∧ w.cell? ⟨b, off + i, none⟩ = some (.slice p (rows.getD i []).length q) ∧ OwnI lo hi w (.slice p (rows.getD i []).length q) (rows.getD i []) := by
  obtain ⟨cs, h1, h2, hl, ho, hd⟩ := h
  rcases h1.2 with ⟨hv, h0⟩ | ⟨g, cap, cur, hv, hb, hh, hn, hm, hs, ht⟩
  · omega
  · cases hv
    obtain ⟨p, q, hv, hr, hc, _⟩ := (ho i hi').slice
    have hx := h1.cells (g := g) rfl i (cs.getD i undef) (by rw [List.getD_eq_getElem?_getD, List.getElem?_eq_getElem (by omega)]; simp)
    rw [Go.WideShapes.add_plain] at hx
    have hoi := ho i hi'
    rw [hv] at hx hoi
    exact ⟨g, 0, p, q, rfl, (Array.getElem?_eq_some_iff.1 hh).1, hx, hoi⟩
set_option maxRecDepth 100000 in
set_option maxHeartbeats 4000000 in
theorem spec_least (n : Nat) (a : Option Addr) (zs : List Int) (c : Nat) (w : World) (hr : ints.Reads .i64 w a zs) (hk : tab.tabB n zs = true) :
    Calls Try.prog 69 #[.int .i64 n, .slice a zs.length c] w (RetIB (bs n zs (wts n) (wts n).length).1 (bs n zs (wts n) (wts n).length).2 w) := by
  obtain ⟨m0, he, h4, hpw, h16, hrg⟩ := tab_nat hk
  obtain rfl : n = m0 := by omega
  have HR := Lib.hid hr
  have HK := Lib.hid hk
  clear hk hpw hrg he hr
  go_enter Try.func69, Try.ntmps69
  go_wp2_with fail
  refine (spec_weights n w h4).mono ?_
  rintro e w1 ⟨v, rfl, hog, hb1⟩
  obtain ⟨ao, co, hvo, _, _, _⟩ := hog.slice
  subst hvo
  have HG := Lib.hid hog
  have HB1 := Lib.hid hb1
  have hs1 := hb1.size
  have hlen := wts_length n
  have hp7 := pow7 h4
  have hl24 : (wts n).length ≤ 2401 := by omega
  have HRW := Lib.hid (fun r (hr : r ∈ wts n) => (wts_row hr).1)
  have HW3 := Lib.hid (fun r (hr : r ∈ wts n) => w3_row hr)
  clear hog hb1 hlen hp7
  generalize wts n = rows at *
  have HOE := Lib.hid ((own_empty w1).mono (hi' := (w1.alloc (.cells #[] 3)).heap.size) hs1 (by simp))
  have HBE := Lib.hid (below_alloc w1 (.cells #[] 3))
  go_wp2_with fail
  go_loopw [7, 8, 9] (fun v f i wr => ∃ (k : Nat), k ≤ rows.length ∧ i = .int .i64 k ∧ f = .bool (bs n zs rows k).2 ∧ Hid (OwnI w.heap.size wr.heap.size wr v (bs n zs rows k).1) ∧ Hid (Below w1.heap.size w1 wr)) (fun _ _ i _ => rows.length - (intOf i).toNat)
  case atStart => exact ⟨0, Nat.zero_le _, rfl, rfl, HOE, HBE⟩
  case round =>
    obtain ⟨k, hk, rfl, rfl, HO, HBl⟩ := hrel
    clear HOE HBE
    have HBW := Lib.hid (HB1.out.trans (HBl.out.mono hs1))
    have hsl := HBl.out.size
    by_cases hlt : k < rows.length
    · obtain ⟨bl, off, p, q, hpe, hbl, hc, hoi⟩ := ownG_at (HG.out.below HBl.out) hlt
      subst hpe
      obtain ⟨pb, qb, hvb, hrb, _, _⟩ := HO.out.slice
      subst hvb
      have hmem : rows.getD k [] ∈ rows := by rw [List.getD_eq_getElem?_getD, List.getElem?_eq_getElem hlt]; exact List.getElem_mem hlt
      have HLr := Lib.hid (HRW.out _ hmem)
      have hr4 : (rows.getD k []).length ≤ 4 := by have := HLr.out; omega
      have HWr := Lib.hid (HW3.out _ hmem)
      have hbr := bs_row n zs rows k hk
      have HWb := Lib.hid (show W3 (bs n zs rows k).1 from by rcases hbr with e | e; · rw [e]; exact w3_nil
                                                              · exact HW3.out _ e)
      have hb4 : (bs n zs rows k).1.length ≤ 4 := by
        rcases hbr with e | e
        · rw [e]; simp
        · have := HRW.out _ e; omega
      obtain ⟨_, _, e3, hrr, _, _⟩ := hoi.slice
      cases e3
      have HRR := Lib.hid hrr
      have HRB := Lib.hid hrb
      have HOI := Lib.hid (hoi.mono (hi' := wr.heap.size) (Nat.le_refl _) hsl)
      have i1 : (0 : Int) ≤ (k : Int) := by omega
      have i2 : (k : Int) < (rows.length : Int) := by omega
      have HCS1 := Lib.hid (fun (m : Nat) => spec_size p (rows.getD k []) q (wr.drewN m) HRR.out hr4 HWr.out)
      have HCS2 := Lib.hid (fun (m : Nat) => spec_size pb (bs n zs rows k).1 qb (wr.drewN m) HRB.out hb4 HWb.out)
      have HCP := Lib.hid (fun (m : Nat) => spec_parts n a zs c p (rows.getD k []) q (wr.drewN m) (HR.out.below (ints.below_drewN HBW.out m)) HRR.out HK.out HLr.out HWr.out)
      have HKP := Lib.hid (fun h1 h2 => bs_keep (n := n) (i := k) (zs := zs) (rows := rows) h1 h2)
      have HNO := Lib.hid (fun h => bs_no (n := n) (i := k) (zs := zs) (rows := rows) h)
      have HTK := Lib.hid (fun h1 h2 => bs_take (n := n) (i := k) (zs := zs) (rows := rows) h1 h2)
      clear hmem hbr hrr hrb hoi HLr HWr HWb
      obtain ⟨B, hB⟩ : ∃ B, B = bs n zs rows k := ⟨_, rfl⟩
      rw [← hB] at HKP HNO HTK HCS2 HO HRB hb4 ⊢
      clear hB
      obtain ⟨bw, bf⟩ := B
      simp only [] at HKP HNO HTK HCS2 HO HRB hb4 ⊢
      generalize rows.getD k [] = r at *
      cases bf
      · go_wp2_with fail
        have HCPm := Lib.hid (HCP.out 0)
        have hcX : (wr.drewN 0).cell? ⟨bl, off + k, none⟩ = some (.slice p r.length q) := hc
        have HBX := Lib.hid (ints.below_drewN (Below.refl wr.heap.size wr) 0)
        clear HCP HCS1 HCS2 HKP
        change Hid (Calls _ _ _ wr _) at HCPm
        change Hid (Below wr.heap.size wr wr) at HBX
        refine HCPm.out.mono ?_
        rintro e w3 ⟨rfl, hb3⟩
        have HB3 := Lib.hid (HBX.out.trans (hb3.mono HBX.out.size))
        have hc3 := cell_below HB3.out hc hbl
        have hs3 := HB3.out.size
        have HOr := Lib.hid ((HOI.out.below HB3.out).mono (lo' := w.heap.size) (hi' := w3.heap.size) (Nat.le_refl _) hs3)
        have HOb := Lib.hid ((HO.out.below HB3.out).mono (lo' := w.heap.size) (hi' := w3.heap.size) (Nat.le_refl _) hs3)
        have HBn := Lib.hid (HBl.out.trans (HB3.out.mono hsl))
        clear hb3 HCPm hc hcX
        cases hpp : partsB n zs r
        · have HE := Lib.hid (HNO.out hpp)
          clear HNO HTK hpp
          go_wp2_with fail
          go_roundw
          case rel => exact ⟨k + 1, by omega, by go_num, by rw [HE.out], by rw [HE.out]; exact HOb, HBn⟩
          case measure => simp [intOf]; omega
        · have HE := Lib.hid (HTK.out (by simp) hpp)
          clear HNO HTK hpp
          go_wp2_with fail
          go_roundw
          case rel => exact ⟨k + 1, by omega, by go_num, by rw [HE.out], by rw [HE.out]; exact HOr, HBn⟩
          case measure => simp [intOf]; omega
      · have HS1 := HCS1
        go_wp2_with fail
        refine (HCS1.out 0).mono ?_
        rintro e w' ⟨rfl, m1, rfl⟩
        rw [World.drewN_drewN, Nat.zero_add]
        go_wp2_with fail
        refine (HCS2.out m1).mono ?_
        rintro e w' ⟨rfl, m2, rfl⟩
        rw [World.drewN_drewN]
        by_cases hle : size bw ≤ size r
        · have HE := Lib.hid (HKP.out (by first | rfl | trivial) hle)
          have HBn := Lib.hid (ints.below_drewN HBl.out (m1 + m2))
          have HOb := Lib.hid (show OwnI w.heap.size (wr.drewN (m1 + m2)).heap.size (wr.drewN (m1 + m2)) (.slice pb bw.length qb) bw from HO.out)
          clear HNO HTK HCP HCS1 HCS2 HKP
          generalize wr.drewN (m1 + m2) = wX at *
          generalize size bw = sb at *
          generalize size r = sr at *
          go_wp2_with fail
          go_roundw
          case rel => exact ⟨k + 1, by omega, by go_num, by rw [HE.out], by rw [HE.out]; exact HOb, HBn⟩
          case measure => simp [intOf]; omega
        · have hgt : ¬ (size bw ≤ size r) := hle
          have hneg : ¬ (True ∧ size bw ≤ size r) := fun h => hle h.2
          have HNEG := Lib.hid (show ¬ (true = true ∧ size bw ≤ size r) from fun h => hle h.2)
          have HTK2 := Lib.hid (fun h => HTK.out (by first | exact HNEG.out | exact hneg | exact hgt | (simp; omega)) h)
          clear HTK
          have HTK := HTK2
          clear HTK2
          clear hneg hle
          generalize size bw = sb at *
          generalize size r = sr at *
          have HCPm := Lib.hid (HCP.out (m1 + m2))
          have hcX : (wr.drewN (m1 + m2)).cell? ⟨bl, off + k, none⟩ = some (.slice p r.length q) := hc
          have HBX := Lib.hid (ints.below_drewN (Below.refl wr.heap.size wr) (m1 + m2))
          clear HCP HCS1 HCS2 HKP
          generalize wr.drewN (m1 + m2) = wX at *
          go_wp2_with fail
          refine HCPm.out.mono ?_
          rintro e w3 ⟨rfl, hb3⟩
          have HB3 := Lib.hid (HBX.out.trans (hb3.mono HBX.out.size))
          have hc3 := cell_below HB3.out hc hbl
          have hs3 := HB3.out.size
          have HOr := Lib.hid ((HOI.out.below HB3.out).mono (lo' := w.heap.size) (hi' := w3.heap.size) (Nat.le_refl _) hs3)
          have HOb := Lib.hid ((HO.out.below HB3.out).mono (lo' := w.heap.size) (hi' := w3.heap.size) (Nat.le_refl _) hs3)
          have HBn := Lib.hid (HBl.out.trans (HB3.out.mono hsl))
          clear hb3 HCPm hc hcX
          cases hpp : partsB n zs r
          · have HE := Lib.hid (HNO.out hpp)
            clear HNO HTK hpp
            go_wp2_with fail
            go_roundw
            case rel => exact ⟨k + 1, by omega, by go_num, by rw [HE.out], by rw [HE.out]; exact HOb, HBn⟩
            case measure => simp [intOf]; omega
          · have HE := Lib.hid (HTK.out hpp)
            clear HNO HTK hpp
            go_wp2_with fail
            go_roundw
            case rel => exact ⟨k + 1, by omega, by go_num, by rw [HE.out], by rw [HE.out]; exact HOr, HBn⟩
            case measure => simp [intOf]; omega
    · obtain rfl : k = rows.length := by omega
      have HF := Lib.hid (show RetIB (bs n zs rows rows.length).1 (bs n zs rows rows.length).2 w (.returned (.tuple #[u7, .bool (bs n zs rows rows.length).2])) wr from ⟨u7, rfl, HO.out, HBW.out⟩)
      go_wp2_with fail
      go_ret2
      exact HF.out
end Go.Proofs.Ytchlkcmgonbcjaa.least5
