/- The walks of TracesOf: the model's and the program's. -/
import Derived.Test.YtncidajjeccbkaaTraceS
import Derived.Test.YtncidajjeccbkaaHad
import Derived.Test.YtncidajjeccbkaaLabL
import Derived.Test.YtncidajjeccbkaaRets
import Derived.Deep.AppendLies
namespace Go.Proofs.Ytncidajjeccbkaa.tracew
open Go.RowKit own pp nums bitn setcmp setord cls classt atw rising tracep traces hadw labw ownb setsn
set_option linter.unusedVariables false
set_option linter.unusedSimpArgs false

/-- Some of the rows. -/
theorem rows_sel {lo hi : Nat} {w : World} {cs : List Value} {rows : List (List Int)} (h : RowsOf lo hi w cs rows) (sel : List Nat) (hn : sel.Nodup) (hs : ∀ k ∈ sel, k < rows.length) : RowsOf lo hi w (sel.map fun k => cs.getD k undef) (sel.map fun k => rows.getD k []) := by
  have hgd : ∀ {α : Type} (f : Nat → α) (d : α) (i : Nat) (hi : i < sel.length), (sel.map f).getD i d = f sel[i] := fun f d i hi => by
    rw [List.getD_eq_getElem?_getD, List.getElem?_map, List.getElem?_eq_getElem hi]; rfl
  refine ⟨by simp, fun i hi => ?_, fun i j hij hj g hg => ?_⟩
  · have hi' : i < sel.length := by simpa using hi
    rw [hgd _ _ i hi', hgd _ _ i hi']
    exact h.2.1 _ (hs _ (List.getElem_mem hi'))
  · have hj' : j < sel.length := by simpa using hj
    rw [hgd _ _ i (by omega)] at hg
    rw [hgd _ _ j hj']
    have hne : sel[i] ≠ sel[j] := List.pairwise_iff_getElem.1 hn i j (by omega) hj' hij
    intro hg2
    rcases Nat.lt_or_gt_of_ne hne with hl | hl
    · exact h.2.2 _ _ hl (hs _ (List.getElem_mem hj')) g hg hg2
    · exact h.2.2 _ _ hl (hs _ (List.getElem_mem (show i < sel.length by omega))) g hg2 hg
/-- The places below k where p holds. -/
def selTo (p : Nat → Bool) (k : Nat) : List Nat := (List.range k).filter p
theorem sel_hit {p : Nat → Bool} {k : Nat} (h : p k = true) : selTo p (k + 1) = selTo p k ++ [k] := by unfold selTo; rw [List.range_succ, List.filter_append]; simp [h]
theorem sel_miss {p : Nat → Bool} {k : Nat} (h : p k = false) : selTo p (k + 1) = selTo p k := by unfold selTo; rw [List.range_succ, List.filter_append]; simp [h]
theorem sel_nodup (p : Nat → Bool) (k : Nat) : (selTo p k).Nodup := List.Pairwise.filter _ List.nodup_range
theorem sel_lt {p : Nat → Bool} {k j : Nat} (h : j ∈ selTo p k) : j < k := List.mem_range.1 (List.mem_filter.1 h).1
theorem sel_length (p : Nat → Bool) (k : Nat) : (selTo p k).length ≤ k := by unfold selTo; have := List.length_filter_le p (List.range k); simpa using this
theorem tot_le (l : List (List Int)) (B : Nat) (h : ∀ r ∈ l, r.length ≤ B) : grid.tot l ≤ l.length * B := by
  induction l with
  | nil => simp [grid.tot]
  | cons x l ih =>
    have h1 := h x (by simp)
    have h2 := ih (fun r hr => h r (by simp [hr]))
    unfold grid.tot at *
    rw [List.map_cons, List.sum_cons, List.length_cons, Nat.succ_mul]; omega
theorem had_size {rows : List (List Int)} {set : List Int} (h : classB rows = true ∧ risesB ((rows.getD 0 []).length : Int) set = true) : (hadL rows set).length ≤ 256 ∧ grid.tot (hadL rows set) ≤ 2048 := by
  have hC := cls_of h.1
  have hs8 : set.length ≤ 8 := Nat.le_trans (rises_len h.2) hC.m8
  have hp := bits8.pow8 hs8
  have h1 : (hadL rows set).length ≤ 256 := by
    unfold hadL
    rw [List.length_map]
    have := List.length_filter_le (hadTo rows set rows.length) (List.range (2 ^ set.length))
    rw [List.length_range] at this
    omega
  have h2 := tot_le (hadL rows set) 8 (fun r hr => by
    unfold hadL at hr
    obtain ⟨k, _, rfl⟩ := List.mem_map.1 hr
    rw [lab_length]; exact hs8)
  omega
set_option maxRecDepth 100000 in
set_option maxHeartbeats 4000000 in
theorem spec_no (a : Option Addr) (rows : List (List Int)) (c : Nat) (a1 : Option Addr) (set : List Int) (c1 : Nat) (w : World) (hr : grid.Reads w a rows) (hq : ints.Reads .i64 w a1 set) (hn : rows.length ≤ 1048576) (hm : ∀ r ∈ rows, r.length ≤ 1048576) (hz : set.length ≤ 1048576) (hk : setB rows set = false) :
    Calls Try.prog 24 #[.slice a rows.length c, .slice a1 set.length c1] w (RetGB [] false w) := by
  have HS := Lib.hid (fun (wa : World) (hb : Below w.heap.size w wa) => classt.spec_set a rows c a1 set c1 wa (hr.below hb) (hq.below hb) hn hm hz false (Lib.hid hk))
  clear hr hq hm hk
  go_enter Try.func24, Try.ntmps24
  go_wp2_with fail
  refine (HS.out _ (Below.refl _ _)).mono ?_
  rintro e w' ⟨rfl, m, rfl⟩
  go_wp2_with fail
  go_ret2
  have hz9 := World.ownsRow_made (base := (w.drewN m).heap.size) (e := 30) (size := 1) (w.drewN m) #[] 0 (Nat.le_refl _) (by unfold maxLen; omega) rfl
  exact ⟨_, rfl, ⟨[], hz9, fun g e => (hz9.lt g e).2, RowsOf.nil _ _ _⟩, (ints.below_drewN (Below.refl _ _) m).alloc (Nat.le_refl _) _⟩
set_option maxRecDepth 100000 in
set_option maxHeartbeats 4000000 in
theorem spec_yes (a : Option Addr) (rows : List (List Int)) (c : Nat) (a1 : Option Addr) (set : List Int) (c1 : Nat) (w : World) (hr : grid.Reads w a rows) (hq : ints.Reads .i64 w a1 set) (hn : rows.length ≤ 1048576) (hm : ∀ r ∈ rows, r.length ≤ 1048576) (hz : set.length ≤ 1048576) (hk : setB rows set = true) :
    Calls Try.prog 24 #[.slice a rows.length c, .slice a1 set.length c1] w (RetGB (hadL rows set) true w) := by
  have HS := Lib.hid (fun (wa : World) (hb : Below w.heap.size w wa) => classt.spec_set a rows c a1 set c1 wa (hr.below hb) (hq.below hb) hn hm hz true (Lib.hid hk))
  obtain ⟨hcl, hri⟩ := (setB_iff rows set).1 hk
  have hC := cls_of hcl
  have hs8 : set.length ≤ 8 := Nat.le_trans (rises_len hri) hC.m8
  have hin := rises_inside hri
  have HT := Lib.hid (fun (wa : World) (hb : Below w.heap.size w wa) => spec_traces a rows c a1 set c1 wa (hr.below hb) (hq.below hb) hC hin hs8)
  rw [tr_had hC hin hs8] at HT
  generalize hadL rows set = T at *
  clear hr hq hm hk hcl hri hC hin
  go_enter Try.func24, Try.ntmps24
  go_wp2_with fail
  refine (HS.out _ (Below.refl _ _)).mono ?_
  rintro e w' ⟨rfl, m, rfl⟩
  go_wp2_with fail
  refine (HT.out _ (ints.below_drewN (Below.refl _ _) m)).mono ?_
  rintro e w4 ⟨v, rfl, ho, hb4⟩
  have HF := Lib.hid (show RetGB T true w (.returned (.tuple #[v, .bool true])) w4 from ⟨v, rfl, ho, (ints.below_drewN (Below.refl w.heap.size w) m).trans hb4⟩)
  clear ho hb4
  go_wp2_with fail
  go_ret2
  exact HF.out
set_option maxRecDepth 100000 in
set_option maxHeartbeats 4000000 in
theorem impl_no (a : Option Addr) (rows : List (List Int)) (c : Nat) (a1 : Option Addr) (set : List Int) (c1 : Nat) (w : World) (hr : grid.Reads w a rows) (hq : ints.Reads .i64 w a1 set) (hn : rows.length ≤ 1048576) (hm : ∀ r ∈ rows, r.length ≤ 1048576) (hz : set.length ≤ 1048576) (hk : setB rows set = false) :
    Calls Try.prog 26 #[.slice a rows.length c, .slice a1 set.length c1] w (RetGB [] false w) := by
  have HS := Lib.hid (fun (wa : World) (hb : Below w.heap.size w wa) => classt.impl_set a rows c a1 set c1 wa (hr.below hb) (hq.below hb) hn hm hz false (Lib.hid hk))
  clear hr hq hm hk
  go_enter Try.func26, Try.ntmps26
  go_wp2_with fail
  refine (HS.out _ (Below.refl _ _)).mono ?_
  rintro e w' ⟨rfl, m, rfl⟩
  go_wp2_with fail
  go_ret2
  have hz9 := World.ownsRow_made (base := (w.drewN m).heap.size) (e := 30) (size := 1) (w.drewN m) #[] 0 (Nat.le_refl _) (by unfold maxLen; omega) rfl
  exact ⟨_, rfl, ⟨[], hz9, fun g e => (hz9.lt g e).2, RowsOf.nil _ _ _⟩, (ints.below_drewN (Below.refl _ _) m).alloc (Nat.le_refl _) _⟩
set_option maxRecDepth 100000 in
set_option maxHeartbeats 4000000 in
theorem impl_yes (a : Option Addr) (rows : List (List Int)) (c : Nat) (a1 : Option Addr) (set : List Int) (c1 : Nat) (w : World) (hr : grid.Reads w a rows) (hq : ints.Reads .i64 w a1 set) (hn : rows.length ≤ 1048576) (hm : ∀ r ∈ rows, r.length ≤ 1048576) (hz : set.length ≤ 1048576) (hk : setB rows set = true) :
    Calls Try.prog 26 #[.slice a rows.length c, .slice a1 set.length c1] w (RetGB (hadL rows set) true w) := by
  obtain ⟨i0, hi, hz0, hz1, hz2⟩ := info_parts setsn.infoSl
  have HS := Lib.hid (fun (wa : World) (hb : Below w.heap.size w wa) => classt.impl_set a rows c a1 set c1 wa (hr.below hb) (hq.below hb) hn hm hz true (Lib.hid hk))
  obtain ⟨hcl, hri⟩ := (setB_iff rows set).1 hk
  have hC := cls_of hcl
  have hs8 : set.length ≤ 8 := Nat.le_trans (rises_len hri) hC.m8
  have hin := rises_inside hri
  have HH := Lib.hid (fun (wa : World) (hb : Below w.heap.size w wa) => impl_had a rows c a1 set c1 wa (hr.below hb) (hq.below hb) hC hin hs8)
  have HL := Lib.hid (fun (wa : World) => impl_lists set.length wa hs8)
  have hp12 := bits8.pow8 hs8
  have HAL := Lib.hid (allL_length set.length)
  have HTT := Lib.hid (show hadL rows set = (selTo (hadTo rows set rows.length) (2 ^ set.length)).map (fun k => (allL set.length).getD k []) from by
    unfold hadL
    refine List.map_congr_left fun k hk => ?_
    rw [allL_getD _ _ (sel_lt hk)])
  rw [HTT.out]
  generalize hadTo rows set rows.length = p at *
  generalize allL set.length = A at *
  generalize 2 ^ set.length = N at *
  clear hr hq hm hk hcl hri hC hin HTT
  go_enter Try.func26, Try.ntmps26
  go_wp2_with fail
  refine (HS.out _ (Below.refl _ _)).mono ?_
  rintro e w' ⟨rfl, m, rfl⟩
  go_wp2_with fail
  refine (HH.out _ (ints.below_drewN (Below.refl _ _) m)).mono ?_
  rintro e w2 ⟨v, rfl, hob, hb2⟩
  obtain ⟨gh, ch, rfl, hgl, hgh, hgs, hch, _⟩ := hob.slice hp12.1
  have HB2 := Lib.hid (show Below w.heap.size w w2 from (ints.below_drewN (Below.refl w.heap.size w) m).trans hb2)
  have hsw : w.heap.size ≤ w2.heap.size := HB2.out.size
  have HOB := Lib.hid (show OwnB w.heap.size w2.heap.size w2 (.slice (some ⟨gh, 0, none⟩) N ch) N p from hob)
  clear hob hb2 HH HS hgl
  obtain ⟨w3, hw3⟩ : ∃ w3 : World, w3 = w2.alloc (.cells #[] 30) := ⟨_, rfl⟩
  have hown3 : w3.ownsRow w2.heap.size 30 1 (.slice (some ⟨w2.heap.size, 0, none⟩) 0 0) 0 [] := by rw [hw3]; exact World.ownsRow_made (base := w2.heap.size) (e := 30) (size := 1) w2 #[] 0 (Nat.le_refl _) (by unfold maxLen; omega) rfl
  have hb3 : Below w2.heap.size w2 w3 := by rw [hw3]; exact below_alloc w2 _
  have s3 : w2.heap.size < w3.heap.size := by rw [hw3]; simp
  go_wp2_with fail
  rw [← hw3]
  clear hw3
  refine (HL.out _).mono ?_
  rintro e w4 ⟨v, rfl, hol, hb4⟩
  obtain ⟨csl, hoc⟩ := hol
  have hN1 : 1 ≤ A.length := by rw [HAL.out]; exact hp12.1
  obtain ⟨gl, cl, hvl, hgl⟩ := own_form hoc.1 hN1
  subst hvl
  have s4 : w3.heap.size ≤ w4.heap.size := hb4.size
  have HB4 := Lib.hid (HB2.out.trans ((hb3.trans (hb4.mono (by omega))).mono hsw))
  have hown4 := ownsRow_block hown3 (fun g e => hb4.block g (hown3.lt g e).2)
  have HOC := Lib.hid hoc
  have HB24 := Lib.hid (hb3.trans (hb4.mono (by omega)))
  clear hb3 hb4 hown3 HL hoc
  rw [HAL.out]
  go_wp2_with fail
  go_loopw [7, 23] (fun v z wr => ∃ (k : Nat) (pp : Option Addr) (cp : Nat), k ≤ N ∧ z = .int .i64 k ∧ v = .slice pp (selTo p k).length cp ∧ wr.ownsRow w2.heap.size 30 1 (.slice pp (selTo p k).length cp) (selTo p k).length ((selTo p k).map fun j => csl.getD j undef) ∧ (∀ g, (Value.slice pp (selTo p k).length cp).ownBlock = some g → g < w3.heap.size ∨ w4.heap.size ≤ g) ∧ Below w2.heap.size w2 wr ∧ w4.heap.size ≤ wr.heap.size ∧ OwnC w3.heap.size w4.heap.size wr (.slice (some ⟨gl, 0, none⟩) A.length cl) A csl) (fun _ z _ => N - (intOf z).toNat)
  case atStart => exact ⟨0, _, 0, Nat.zero_le _, rfl, rfl, hown4, fun g e => .inl (by have e2 : w2.heap.size = g := (by simpa [Value.ownBlock] using e); omega), HB24.out, Nat.le_refl _, HOC.out⟩
  case round =>
    clear hown4
    obtain ⟨k, pp, cp, hk, rfl, rfl, hown, hat0, hbel, hszr, hoc⟩ := hrel
    have hsl := sel_length p k
    have HV := Lib.hid hown.lt
    have hw2r := hbel.size
    by_cases hlt : k < N
    · have hka : k < A.length := by rw [HAL.out]; exact hlt
      obtain ⟨sa, sc, hvs, _, _, _⟩ := (hoc.2.2.2.1 k hka).slice
      have hcl := hoc.1.cellAt k (by omega)
      have hcl9 : csl.length = A.length := hoc.2.2.1
      have e2 : csl[k]? = some (csl.getD k undef) := by rw [List.getD_eq_getElem?_getD, List.getElem?_eq_getElem (by omega)]; rfl
      rw [e2, hvs] at hcl
      have hch := ((HOB.out.below hbel).slice hp12.1)
      obtain ⟨gh', ch', eh, _, _, hghs, _, hcs⟩ := hch
      cases eh
      have hcb := hcs k hlt
      have HVS := Lib.hid hvs
      have HO := Lib.hid hown
      have HOCr := Lib.hid hoc
      have HAT := Lib.hid hat0
      have HBl := Lib.hid hbel
      have i1 : (0 : Int) ≤ (k : Int) := by omega
      have i2 : (k : Int) < (N : Int) := by omega
      have hgl9 : gl < wr.heap.size := (hoc.1.lt gl rfl).2
      clear hown hat0 hbel hoc hcs hvs e2 hcl9
      cases hp : p k
      · have HM := Lib.hid (sel_miss hp)
        rw [hp] at hcb
        clear hp
        generalize (A.getD k []).length = sl at *
        generalize selTo p k = sel at *
        go_wp2_with fail
        go_roundw
        case rel => exact ⟨k + 1, pp, cp, by omega, by go_num, by rw [HM.out], by rw [HM.out]; exact HO.out, by rw [HM.out]; exact HAT.out, HBl.out, hszr, HOCr.out⟩
        case measure => simp [intOf]; omega
      · have HM := Lib.hid (sel_hit hp)
        rw [hp] at hcb
        clear hp
        generalize (A.getD k []).length = sl at *
        generalize selTo p k = sel at *
        go_wp2_with (at_builtin; refine wpList_append_lies _ rfl _ _ 22 rfl w2.heap.size 30 i0 (.slice none 0 0) 1 24 Try.underlying22 hi hz0 hz1 hz2 rfl (by decide) (.slice pp sel.length cp) sel.length (sel.map fun j => csl.getD j undef) rfl (HO.out.alloc _) ⟨wr.heap.size, 0, none⟩ 1 1 [.slice sa sl sc] rfl rfl (cell_one_new _ _ _) (by simp [Value.oneCell']) (by omega) (by unfold maxLen; omega) (by omega) (by simp; omega) _ rfl ?_; intro gg cap w7 hown' hgrow hat _)
        have hstay : ∀ g, g < wr.heap.size → (∀ g', (Value.slice pp sel.length cp).ownBlock = some g' → g ≠ g') → w7.heap[g]? = wr.heap[g]? := fun g hg hne => (hgrow.block g (by simp; omega) (fun e => hne g e.symm rfl)).trans (Below.heap_alloc wr _ g hg)
        have HO2 := Lib.hid (show w7.ownsRow w2.heap.size 30 1 (.slice (some ⟨gg, 0, none⟩) (selTo p (k + 1)).length cap) (selTo p (k + 1)).length ((selTo p (k + 1)).map fun j => csl.getD j undef) from by
          rw [HM.out, List.map_append, List.length_append]
          show w7.ownsRow _ _ _ _ _ (_ ++ [csl.getD k undef])
          rw [HVS.out]; exact hown')
        have HB2' := Lib.hid ((HBl.out.alloc hw2r _).grown hgrow (by simp; omega) (fun g e => (HV.out g e).1))
        have HOC2 := Lib.hid (show OwnC w3.heap.size w4.heap.size w7 (.slice (some ⟨gl, 0, none⟩) A.length cl) A csl from
          ⟨ownsRow_block HOCr.out.1 (fun g e => hstay g (HOCr.out.1.lt g e).2 (fun g' e' => by have h1 := HOCr.out.1.lt g e; have h2 := HOCr.out.2.1 g e; have h3 := HAT.out g' e'; omega)), HOCr.out.2.1, HOCr.out.2.2.keep (fun g h1 h2 h3 _ => hstay g h3 (fun g' e' => by have h4 := HAT.out g' e'; omega))⟩)
        have HAT2 := Lib.hid (show ∀ g, (Value.slice (some ⟨gg, 0, none⟩) (selTo p (k + 1)).length cap).ownBlock = some g → g < w3.heap.size ∨ w4.heap.size ≤ g from fun g e => by
          obtain rfl : gg = g := by simpa [Value.ownBlock] using e
          rcases hat with ha | ha
          · exact HAT.out gg ha
          · simp at ha; omega)
        have hs7 : w4.heap.size ≤ w7.heap.size := by have := hgrow.size; simp at this; omega
        clear hown' hgrow hat hstay
        go_wp2_with fail
        go_roundw
        case rel => exact ⟨k + 1, some ⟨gg, 0, none⟩, cap, by omega, by go_num, by rw [HM.out, List.length_append]; rfl, HO2.out, HAT2.out, HB2'.out, hs7, HOC2.out⟩
        case measure => simp [intOf]; omega
    · obtain rfl : k = N := by omega
      have hrs := rows_sel hoc.2.2 (selTo p k) (sel_nodup p k) (fun j hj => by rw [HAL.out]; exact sel_lt hj)
      have HF := Lib.hid (show RetGB ((selTo p k).map fun j => A.getD j []) true w (.returned (.tuple #[.slice pp (selTo p k).length cp, .bool true])) wr from ⟨_, rfl, ⟨(selTo p k).map fun j => csl.getD j undef, by rw [List.length_map]; exact ownsRow_base hown (fun g e => by have := (hown.lt g e).1; omega), fun g e => (hown.lt g e).2, hrs.mono (by omega) hszr⟩, HB2.out.trans (hbel.mono hsw)⟩)
      clear hown hoc hrs hbel hat0
      go_wp2_with fail
      go_ret2
      exact HF.out
end Go.Proofs.Ytncidajjeccbkaa.tracew
