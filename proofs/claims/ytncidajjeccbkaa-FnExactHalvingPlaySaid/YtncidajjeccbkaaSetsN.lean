/- The walk of the program's list of sets, in order. -/
import Derived.Test.YtncidajjeccbkaaBitsL
import Derived.Test.YtncidajjeccbkaaSortW
import Derived.Test.YtncidajjeccbkaaPlIn
import Derived.Deep.AppendLies
import Derived.Deep.DrawnRows
namespace Go.Proofs.Ytncidajjeccbkaa.setsn
open Go.RowKit own pp nums setcmp setord bitn edge sortw
set_option linter.unusedVariables false
attribute [local go_sem ↓] Go.wp_at_zero Go.wp_at_succ
set_option linter.unusedSimpArgs false

theorem own_form {w : World} {base n : Nat} {v : Value} {xs : List Value} (h : w.ownsRow base 30 1 v n xs) (hn : 0 < n) : ∃ g cap, v = .slice (some ⟨g, 0, none⟩) n cap ∧ g < w.heap.size := by
  obtain ⟨g, cap, e, _, hlt⟩ := h.form hn
  exact ⟨g, cap, e, hlt⟩
theorem bits_in (n k : Nat) : plin.placesTo (fun i => decide (0 < (bitw.bitsTo k n).getD i 0)) (bitw.bitsTo k n).length = bitsL n k := by
  rw [bitw.bitsTo_length]
  show pwh.placesTo _ n = _
  refine pwh.placesTo_congr fun i hi => ?_
  rw [bits_digit _ _ _ hi]
  have hd : k / 2 ^ i % 2 = 0 ∨ k / 2 ^ i % 2 = 1 := by omega
  unfold dg
  rcases hd with e | e <;> rw [e] <;> rfl
def rowsTo (n : Nat) (K : List Nat) (j : Nat) : List (List Int) := (K.take j).map (bitsL n)
theorem rows_succ (n : Nat) (K : List Nat) (j : Nat) (h : j < K.length) : rowsTo n K (j + 1) = rowsTo n K j ++ [bitsL n (K.getD j 0)] := by
  unfold rowsTo
  rw [List.take_add_one, List.map_append, List.getElem?_eq_getElem h, List.getD_eq_getElem?_getD, List.getElem?_eq_getElem h]
  rfl
theorem rows_length (n : Nat) (K : List Nat) (j : Nat) (h : j ≤ K.length) : (rowsTo n K j).length = j := by
  unfold rowsTo
  rw [List.length_map, List.length_take]; omega
theorem rows_8 {n : Nat} {K : List Nat} {j : Nat} (h8 : n ≤ 8) {r : List Int} (h : r ∈ rowsTo n K j) : r.length ≤ 8 := by
  obtain ⟨k, _, rfl⟩ := List.mem_map.1 h
  exact Nat.le_trans (bits_len n k) h8
theorem pushR {lo hi k : Nat} {w2 w3 : World} {v c : Value} {cs : List Value} {rows : List (List Int)} {r : List Int} {O : Obj} (ho : w2.ownsRow lo 30 1 v k cs) (hr : RowsOf lo hi w2 cs rows) (hc : OwnI hi w2.heap.size w2 c r) (h1 : lo ≤ hi) (h2 : hi ≤ w2.heap.size)
    (hg : (w2.alloc O).grownBy w3 v.ownBlock) : RowsOf lo w3.heap.size w3 (cs ++ [c]) (rows ++ [r]) := by
  have h := hr.snoc hc h1 h2
  have hs : w2.heap.size ≤ w3.heap.size := Nat.le_trans (by simp) hg.size
  refine (h.keep fun g hl hh hgs hbl => ?_).mono (Nat.le_refl _) hs
  rw [hg.block g (by simp; omega) (fun e => ?_), Below.heap_alloc w2 O g hgs]
  obtain ⟨i, hi', hb⟩ := hbl
  exact ownsRow_ne (h.2.1 i hi').1 ho (by decide) hb e.symm
theorem infoSl : (Try.prog.info? 30).map (fun i => (i.zero, i.size, i.bytes)) = some (some (.slice none 0 0), 1, 24) := by kernel_rfl
set_option maxRecDepth 100000 in
set_option maxHeartbeats 4000000 in
theorem sets_where (fv : Value) (n : Nat) (q : Nat → Bool) (w : World) (h8 : n ≤ 8)
    (HW : Hid (∀ (W : World), Below w.heap.size w W → Calls Try.prog 76 #[.int .i64 ((2 ^ n : Nat) : Int), fv] W (intfns.Made (pwh.placesTo q (2 ^ n)) W))) :
    Calls Try.prog 96 #[.int .i64 n, fv] w (MadeG (putsL (((List.range (2 ^ n)).filter q).map (bitsL n))) w) := by
  obtain ⟨i0, hi, hz0, hz1, hz2⟩ := info_parts infoSl
  have hp12 := bits8.pow8 h8
  obtain ⟨K, hK⟩ : ∃ K : List Nat, K = (List.range (2 ^ n)).filter q := ⟨_, rfl⟩
  have hKL : K.length ≤ 256 := by
    rw [hK]
    have := List.length_filter_le q (List.range (2 ^ n))
    rw [List.length_range] at this
    omega
  have HKB := Lib.hid (show ∀ j, j < K.length → K.getD j 0 < 256 from fun j hj => by
    have hm : K.getD j 0 ∈ K := by rw [List.getD_eq_getElem?_getD, List.getElem?_eq_getElem hj]; exact List.getElem_mem hj
    rw [hK] at hm
    have := List.mem_range.1 (List.mem_filter.1 hm).1
    rw [hK]; omega)
  have HL := Lib.hid (show pwh.placesTo q (2 ^ n) = K.map (fun i : Nat => (i : Int)) by rw [hK]; rfl)
  rw [← hK]
  rw [HL.out] at HW
  have HPW := Lib.hid (show ((2 : Int) ^ n) = ((2 ^ n : Nat) : Int) from by simp)
  clear hK HL
  generalize 2 ^ n = N at *
  have HBI := Lib.hid (fun (k : Nat) (W : World) (hk : k < 256) => bits8.impl_bits n k W h8 hk)
  have HIN := Lib.hid (fun (k : Nat) (a : Option Addr) (c : Nat) (W : World) (hr : ints.Reads .i64 W a (bitw.bitsTo k n)) => plin.impl_in a (bitw.bitsTo k n) c W hr (by rw [bitw.bitsTo_length]; omega))
  simp only [bits_in] at HIN
  have hlen : (K.map (fun i : Nat => (i : Int))).length = K.length := List.length_map _
  have HLG := Lib.hid (show ∀ j, j < K.length → (K.map (fun i : Nat => (i : Int))).getD j 0 = ((K.getD j 0 : Nat) : Int) from fun j hj => by
    rw [List.getD_eq_getElem?_getD, List.getD_eq_getElem?_getD, List.getElem?_map, List.getElem?_eq_getElem hj]; rfl)
  have HLN := Lib.hid hlen
  clear hlen
  generalize K.map (fun i : Nat => (i : Int)) = L at *
  go_enter Try.func96, Try.ntmps96
  obtain ⟨w1, hw1⟩ : ∃ w1 : World, w1 = w.alloc (.cells #[] 30) := ⟨_, rfl⟩
  have hown1 : w1.ownsRow w.heap.size 30 1 (.slice (some ⟨w.heap.size, 0, none⟩) 0 0) 0 [] := by rw [hw1]; exact World.ownsRow_made (base := w.heap.size) (e := 30) (size := 1) w #[] 0 (Nat.le_refl _) (by unfold maxLen; omega) rfl
  have HB1 := Lib.hid (show Below w.heap.size w w1 by rw [hw1]; exact below_alloc w _)
  have s1 : w.heap.size + 1 ≤ w1.heap.size := by rw [hw1]; simp
  have hsh : (2 : Int) ^ n = (N : Int) := HPW.out
  have hN : (N : Int) ≤ 256 := by omega
  go_wp2_with fail
  rw [← hw1]
  clear hw1
  refine (HW.out _ HB1.out).mono ?_
  rintro e w3 ⟨v, rfl, hol, hb⟩
  obtain ⟨la, lc, rfl, _, _, _⟩ := hol.slice
  have hown3 := ownsRow_block hown1 (fun g e => hb.block g (hown1.lt g e).2)
  have HB3 := Lib.hid (HB1.out.trans (hb.mono (by omega)))
  have s3 : w1.heap.size ≤ w3.heap.size := hb.size
  have HOL := Lib.hid hol
  clear hb hown1 hol HW
  rw [HLN.out] at HOL ⊢
  clear hsh hN
  go_wp2_with fail
  go_loopw [5, 14] (fun v i wr => ∃ (j : Nat) (pp : Option Addr) (cp : Nat) (cs : List Value), j ≤ K.length ∧ i = .int .i64 j ∧ v = .slice pp (rowsTo n K j).length cp ∧ wr.ownsRow w.heap.size 30 1 (.slice pp (rowsTo n K j).length cp) (rowsTo n K j).length cs ∧ RowsOf w.heap.size wr.heap.size wr cs (rowsTo n K j) ∧ Below w.heap.size w3 wr ∧ OwnI w1.heap.size w3.heap.size wr (.slice la K.length lc) L) (fun _ i _ => K.length - (intOf i).toNat)
  case atStart => exact ⟨0, _, 0, [], Nat.zero_le _, rfl, rfl, hown3, RowsOf.nil _ _ _, Below.refl _ _, HOL.out⟩
  case round =>
    clear hown3 HOL
    obtain ⟨j, pp, cp, cs, hj, rfl, rfl, hown, hro, hbel, hol⟩ := hrel
    have HOL := Lib.hid hol
    have hszr := hbel.size
    have HB4 := Lib.hid (HB3.out.trans (hbel.mono (by omega)))
    have HBl := Lib.hid hbel
    have HO := Lib.hid hown
    have HRO := Lib.hid hro
    have hll : (rowsTo n K j).length ≤ 256 := by rw [rows_length n K j hj]; omega
    by_cases hlt : j < K.length
    · obtain ⟨b, off, rfl, hbb, hcl⟩ := hol.reads.at (k := j) (by rw [HLN.out]; exact hlt)
      rw [HLG.out j hlt] at hcl
      have hk8 := HKB.out j hlt
      have HM := Lib.hid (rows_succ n K j hlt)
      have HINk := Lib.hid (HIN.out (K.getD j 0))
      have HBIk := Lib.hid (HBI.out (K.getD j 0) wr hk8)
      have hbl := bits_len n (K.getD j 0)
      have i1 : (0 : Int) ≤ (j : Int) := by omega
      have i2 : (j : Int) < (K.length : Int) := by omega
      clear hown hro hbel hol
      generalize bitsL n (K.getD j 0) = s at *
      generalize K.getD j 0 = k at *
      generalize rowsTo n K j = rows at *
      generalize bitw.bitsTo k n = bs at *
      go_wp2_with fail
      refine HBIk.out.mono ?_
      rintro e w5 ⟨v, rfl, hob, hb⟩
      obtain ⟨ba, bc, rfl, _, _, _⟩ := hob.slice
      have s5 := hb.size
      have HB5 := Lib.hid (HBl.out.trans (hb.mono (by omega)))
      have ho5 := ownsRow_block HO.out (fun g e => hb.block g (HO.out.lt g e).2)
      have HR5 := Lib.hid ((HRO.out.below hb).mono (Nat.le_refl _) hb.size)
      have hol5 := HOL.out.below hb
      have HIN5 := Lib.hid (HINk.out ba bc w5 hob.reads)
      clear hb hob HINk HBIk HO HRO HOL HBl
      go_wp2_with fail
      refine HIN5.out.mono ?_
      rintro e w6 ⟨v, rfl, hos, hb⟩
      obtain ⟨sa, sc, rfl, _, _, _⟩ := hos.slice
      have s6 := hb.size
      have HB6 := Lib.hid (HB5.out.trans (hb.mono (by omega)))
      have hown6 := ownsRow_block ho5 (fun g e => hb.block g (ho5.lt g e).2)
      have HR6 := Lib.hid (HR5.out.below hb)
      have HOL6 := Lib.hid (hol5.below hb)
      have HOS := Lib.hid hos
      have HO6 := Lib.hid hown6
      have HV := Lib.hid hown6.lt
      have hsz6 : w.heap.size + 1 ≤ w6.heap.size := by omega
      have hsB : w3.heap.size ≤ w6.heap.size := by omega
      clear hb hos ho5 hol5 hown6 HB5 HR5 HIN5 HB4
      go_wp2_with (at_builtin; refine wpList_append_lies _ rfl _ _ 22 rfl w.heap.size 30 i0 (.slice none 0 0) 1 24 Try.underlying22 hi hz0 hz1 hz2 rfl (by decide) (.slice pp rows.length cp) rows.length cs rfl (HO6.out.alloc _) ⟨w6.heap.size, 0, none⟩ 1 1 [.slice sa s.length sc] rfl rfl (cell_one_new _ _ _) (by simp [Value.oneCell']) (by omega) (by unfold maxLen; omega) (by omega) (by simp; omega) _ rfl ?_; intro gg cap w7 hown' hgrow hat _)
      have HR7 := Lib.hid (pushR HO6.out HR6.out HOS.out (by omega) s6 hgrow) 
      have HB7 := Lib.hid ((HB6.out.alloc (by omega) _).grown hgrow (by simp; omega) (fun g e => (HV.out g e).1))
      have HO7 := Lib.hid hown'
      have HOL7 := Lib.hid (show OwnI w1.heap.size w3.heap.size w7 (.slice (some ⟨b, off, none⟩) K.length lc) L from (HOL6.out.below (below_alloc w6 (.cells #[.slice sa s.length sc] 30))).block (fun g hg => hgrow.block g (by have := HOL6.out.lt hg; simp; omega) (fun e => (ownsRow_ne HOL6.out.1 HO6.out (by decide) hg) e.symm)))
      clear hown' hgrow hat HB6
      go_wp2_with fail
      go_roundw
      case rel => exact ⟨j + 1, some ⟨gg, 0, none⟩, cap, _, by omega, by go_num, by rw [HM.out, List.length_append]; rfl, by rw [HM.out, List.length_append]; exact HO7.out, by rw [HM.out]; exact HR7.out, HB7.out, HOL7.out⟩
      case measure => simp [intOf]; omega
    · obtain rfl : j = K.length := by omega
      have HR8 := Lib.hid (show ∀ r ∈ rowsTo n K K.length, r.length ≤ 8 from fun r h => rows_8 h8 h)
      have HRE := Lib.hid (show rowsTo n K K.length = K.map (bitsL n) by unfold rowsTo; rw [List.take_length])
      generalize rowsTo n K K.length = rows at *
      have HPL := Lib.hid (show (putsL rows).length = rows.length from (puts_perm rows).length_eq)
      clear hol HOL HIN HBI HKB HLG
      by_cases h0 : rows.length = 0
      · have hz := List.length_eq_zero_iff.1 h0
        have HS := Lib.hid (show Calls Try.prog 106 #[.slice pp rows.length cp, .func (.func 107) #[] #[]] wr (fun e w' => e = .returned (.tuple #[]) ∧ w' = wr) by rw [h0]; exact sort_none _ _ _ wr)
        have HF := Lib.hid (show MadeG (putsL rows) w (.returned (.slice pp rows.length cp)) wr from ⟨_, rfl, ⟨cs, by rw [HPL.out]; exact ownsRow_base hown (fun g e => by have := (hown.lt g e).1; omega), fun g e => (hown.lt g e).2, by rw [hz] at hro ⊢; exact hro.mono (by omega) (Nat.le_refl _)⟩, HB4.out⟩)
        clear hown hro hbel hz h0
        go_wp2_with fail
        refine HS.out.mono ?_
        rintro e w' ⟨rfl, rfl⟩
        go_wp2_with fail
        go_ret
        rw [← HRE.out]
        exact HF.out
      · obtain ⟨gl, cp', e, _⟩ := own_form hown (by omega)
        cases e
        have HS := Lib.hid (sort_any w.heap.size gl cp cs rows wr hown hro hll HR8.out)
        clear hown hro hbel h0
        go_wp2_with fail
        refine HS.out.mono ?_
        rintro e w9 ⟨rfl, cs', hown, hro, hb⟩
        have s9 := hb.size
        have HF := Lib.hid (show MadeG (putsL rows) w (.returned (.slice (some ⟨gl, 0, none⟩) rows.length cp)) w9 from ⟨_, rfl, ⟨cs', by rw [HPL.out]; exact ownsRow_base hown (fun g e => by have := (hown.lt g e).1; omega), fun g e => (hown.lt g e).2, hro.mono (by omega) s9⟩, HB4.out.trans (hb.mono (by omega))⟩)
        clear hown hro hb
        go_wp2_with fail
        go_ret
        rw [← HRE.out]
        exact HF.out
end Go.Proofs.Ytncidajjeccbkaa.setsn
