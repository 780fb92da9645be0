/- The walks of ShatteredSets and VapnikNumber: the model's and the program's. -/
import Derived.Test.YtncidajjeccbkaaShat
import Derived.Test.YtncidajjeccbkaaSetsS
import Derived.Test.YtncidajjeccbkaaDelF
import Derived.Test.YtncidajjeccbkaaTeachP
import Derived.Test.YtncidajjeccbkaaRets
import Derived.Deep.AppendLies
namespace Go.Proofs.Ytncidajjeccbkaa.shatl
open Go.RowKit own pp nums bitn setcmp setord edge cls classt atw rising tracep shatw setsn setsp setss delf
set_option linter.unusedVariables false
set_option linter.unusedSimpArgs false

/-- Some of the rows. -/
theorem rows_sel {lo hi : Nat} {w : World} {cs : List Value} {rows : List (List Int)} (h : RowsOf lo hi w cs rows) (sel : List Nat) (hn : sel.Nodup) (hs : ∀ k ∈ sel, k < rows.length) : RowsOf lo hi w (sel.map fun k => cs.getD k undef) (sel.map fun k => rows.getD k []) := by
  have hgd : ∀ {α : Type} (f : Nat → α) (d : α) (i : Nat) (hi : i < sel.length), (sel.map f).getD i d = f sel[i] := fun f d i hi => by
    rw [List.getD_eq_getElem?_getD, List.getElem?_map, List.getElem?_eq_getElem hi]; rfl
  refine ⟨by simp, fun i hi => ?_, fun i j hij hj g hg => ?_⟩
  · have hi' : i < sel.length := by simpa using hi
    rw [hgd _ _ i hi', hgd _ _ i hi']
    exact h.2.1 _ (hs _ (List.getElem_mem hi'))
  · have hj' : j < sel.length := by simpa using hj
    rw [hgd _ _ i (by omega)] at hg
    rw [hgd _ _ j hj']
    have hne : sel[i] ≠ sel[j] := List.pairwise_iff_getElem.1 hn i j (by omega) hj' hij
    intro hg2
    rcases Nat.lt_or_gt_of_ne hne with hl | hl
    · exact h.2.2 _ _ hl (hs _ (List.getElem_mem hj')) g hg hg2
    · exact h.2.2 _ _ hl (hs _ (List.getElem_mem (show i < sel.length by omega))) g hg2 hg
/-- A set of all sets that is shattered. -/
def shB (rows : List (List Int)) (m : Nat) (k : Nat) : Bool := shatB rows ((allS m).getD k [])
def shL (rows : List (List Int)) (m : Nat) : List (List Int) := (selTo (shB rows m) (2 ^ m)).map fun k => (allS m).getD k []
/-- A row of a list of a call's own. -/
theorem own_cell {lo hi : Nat} {w : World} {g n cap : Nat} {rows : List (List Int)} {cs : List Value} (h : OwnC lo hi w (.slice (some ⟨g, 0, none⟩) n cap) rows cs) (hn : n = rows.length) {k : Nat} (hk : k < rows.length) : ∃ p c, cs.getD k undef = .slice p (rows.getD k []).length c ∧ w.cell? ⟨g, k, none⟩ = some (.slice p (rows.getD k []).length c) ∧ OwnI lo hi w (.slice p (rows.getD k []).length c) (rows.getD k []) := by
  subst hn
  obtain ⟨h1, h2, hl, ho, hd⟩ := h
  obtain ⟨p, c, hv, hr, hc, _⟩ := (ho k hk).slice
  have hx := h1.cellAt k (by omega)
  have e2 : cs[k]? = some (cs.getD k undef) := by rw [List.getD_eq_getElem?_getD, List.getElem?_eq_getElem (by omega)]; rfl
  rw [e2, hv] at hx
  have h3 := ho k hk
  rw [hv] at h3
  exact ⟨p, c, hv, hx, h3⟩
theorem set8 {m k : Nat} (h8 : m ≤ 8) (hk : k < (allS m).length) : Inside m ((allS m).getD k []) ∧ ((allS m).getD k []).length ≤ 8 := by
  have := teachp.set_inside (getD_mem (allS m) [] k hk)
  exact ⟨this.1, by omega⟩
set_option maxRecDepth 100000 in
set_option maxHeartbeats 4000000 in
theorem spec_shattered (a : Option Addr) (rows : List (List Int)) (c : Nat) (w : World) (hr : grid.Reads w a rows) (hk : classB rows = true) :
    Calls Try.prog 65 #[.slice a rows.length c] w (MadeG (shL rows (rows.getD 0 []).length) w) := by
  obtain ⟨i0, hi, hz0, hz1, hz2⟩ := info_parts setsn.infoSl
  have hC := cls_of hk
  obtain ⟨b0, off0, p0, q0, rfl, hc0, hlen, h8⟩ := classt.row0 hr hk
  have hbl : b0 < w.heap.size := World.block_lt_of_cell? w _ hc0
  have HCC := Lib.hid hC
  have HR := Lib.hid hr
  have h256 := hC.top
  obtain ⟨m, hm0⟩ : ∃ m, (rows.getD 0 []).length = m := ⟨_, rfl⟩
  rw [hm0] at hc0 h8 HCC ⊢
  have HS := Lib.hid (fun (wa : World) => setss.spec_sets m wa h8)
  rw [sev_all h8] at HS
  have hp12 := bits8.pow8 h8
  have HAL := Lib.hid (all_length m)
  have HSL := Lib.hid (show shL rows m = (selTo (shB rows m) (2 ^ m)).map (fun k => (allS m).getD k []) from rfl)
  have HSH := Lib.hid (fun (k : Nat) (hkk : k < (allS m).length) (sp : Option Addr) (sc : Nat) (wa : World) (hb : Below w.heap.size w wa) (hq : ints.Reads .i64 wa sp ((allS m).getD k [])) =>
    show Calls Try.prog 63 #[.slice (some ⟨b0, off0, none⟩) rows.length c, .slice sp ((allS m).getD k []).length sc] wa (fun e w' => e = .returned (.bool (shB rows m k)) ∧ Below wa.heap.size wa w') from
    shatw.spec_shatters (some ⟨b0, off0, none⟩) rows c sp ((allS m).getD k []) sc wa (HR.out.below hb) hq HCC.out (set8 h8 hkk).1 (set8 h8 hkk).2)
  rw [HSL.out]
  generalize shB rows m = p at *
  generalize allS m = A at *
  generalize 2 ^ m = N at *
  have i3 : (0 : Int) < (rows.length : Int) := by omega
  clear hr hk hC hm0 HSL
  go_enter Try.func65, Try.ntmps65
  go_wp2_with fail
  obtain ⟨w1, hw1⟩ : ∃ w1 : World, w1 = w.alloc (.cells #[] 30) := ⟨_, rfl⟩
  have hown1 : w1.ownsRow w.heap.size 30 1 (.slice (some ⟨w.heap.size, 0, none⟩) 0 0) 0 [] := by rw [hw1]; exact World.ownsRow_made (base := w.heap.size) (e := 30) (size := 1) w #[] 0 (Nat.le_refl _) (by unfold maxLen; omega) rfl
  have hb1 : Below w.heap.size w w1 := by rw [hw1]; exact below_alloc w _
  have s1 : w.heap.size < w1.heap.size := by rw [hw1]; simp
  try rw [← hw1]
  clear hw1
  refine (HS.out _).mono ?_
  rintro e w4 ⟨v, rfl, hol, hb4⟩
  obtain ⟨csl, hoc⟩ := hol
  have hN1 : 1 ≤ A.length := by rw [HAL.out]; exact hp12.1
  obtain ⟨gl, cl, hvl, hgl⟩ := own_form hoc.1 hN1
  subst hvl
  have s4 : w1.heap.size ≤ w4.heap.size := hb4.size
  have HB4 := Lib.hid (hb1.trans (hb4.mono (by omega)))
  have hown4 := ownsRow_block hown1 (fun g e => hb4.block g (hown1.lt g e).2)
  have HOC := Lib.hid hoc
  clear hb1 hb4 hown1 HS hoc hN1
  rw [HAL.out]
  go_wp2_with fail
  go_loopw [3, 5] (fun v z wr => ∃ (k : Nat) (pp : Option Addr) (cp : Nat), k ≤ N ∧ z = .int .i64 k ∧ v = .slice pp (selTo p k).length cp ∧ wr.ownsRow w.heap.size 30 1 (.slice pp (selTo p k).length cp) (selTo p k).length ((selTo p k).map fun j => csl.getD j undef) ∧ (∀ g, (Value.slice pp (selTo p k).length cp).ownBlock = some g → g < w1.heap.size ∨ w4.heap.size ≤ g) ∧ Below w.heap.size w wr ∧ w4.heap.size ≤ wr.heap.size ∧ OwnC w1.heap.size w4.heap.size wr (.slice (some ⟨gl, 0, none⟩) A.length cl) A csl) (fun _ z _ => N - (intOf z).toNat)
  case atStart => exact ⟨0, _, 0, Nat.zero_le _, rfl, rfl, hown4, fun g e => .inl (by have e2 : w.heap.size = g := (by simpa [Value.ownBlock] using e); omega), HB4.out, Nat.le_refl _, HOC.out⟩
  case round =>
    clear hown4
    obtain ⟨k, pp, cp, hk, rfl, rfl, hown, hat0, hbel, hszr, hoc⟩ := hrel
    have hsl := sel_length p k
    by_cases hlt : k < N
    · have hka : k < A.length := by rw [HAL.out]; exact hlt
      obtain ⟨sa, sc, hvs, hcl, hoi⟩ := own_cell hoc rfl hka
      have hgl9 : gl < wr.heap.size := (hoc.1.lt gl rfl).2
      have HF := Lib.hid (HSH.out k hka sa sc wr hbel hoi.reads)
      have HVS := Lib.hid hvs
      have HO := Lib.hid hown
      have HOCr := Lib.hid hoc
      have HAT := Lib.hid hat0
      have HBl := Lib.hid hbel
      have hw2r := hbel.size
      have i1 : (0 : Int) ≤ (k : Int) := by omega
      have i2 : (k : Int) < (N : Int) := by omega
      clear hown hat0 hbel hoc hvs hoi
      cases hp : p k
      · have HM := Lib.hid (sel_miss hp)
        rw [hp] at HF
        clear hp
        generalize (A.getD k []).length = sl at *
        generalize selTo p k = sel at *
        go_wp2_with fail
        refine HF.out.mono ?_
        rintro e w5 ⟨rfl, hb5⟩
        have HO5 := Lib.hid (ownsRow_block HO.out (fun g e => hb5.block g (HO.out.lt g e).2))
        have HOC5 := Lib.hid (show OwnC w1.heap.size w4.heap.size w5 (.slice (some ⟨gl, 0, none⟩) A.length cl) A csl from ⟨ownsRow_block HOCr.out.1 (fun g e => hb5.block g (HOCr.out.1.lt g e).2), HOCr.out.2.1, HOCr.out.2.2.below hb5⟩)
        have HB5 := Lib.hid (HBl.out.trans (hb5.mono hw2r))
        have hs5 : w4.heap.size ≤ w5.heap.size := Nat.le_trans hszr hb5.size
        clear hb5
        go_wp2_with fail
        go_roundw
        case rel => exact ⟨k + 1, pp, cp, by omega, by go_num, by rw [HM.out], by rw [HM.out]; exact HO5.out, by rw [HM.out]; exact HAT.out, HB5.out, hs5, HOC5.out⟩
        case measure => simp [intOf]; omega
      · have HM := Lib.hid (sel_hit hp)
        rw [hp] at HF
        clear hp
        generalize (A.getD k []).length = sl at *
        generalize selTo p k = sel at *
        obtain ⟨wo, hwo⟩ : ∃ wo : World, wo = wr := ⟨_, rfl⟩
        subst hwo
        go_wp2_with fail
        refine HF.out.mono ?_
        rintro e wr ⟨rfl, hb5⟩
        have HO := Lib.hid (ownsRow_block HO.out (fun g e => hb5.block g (HO.out.lt g e).2))
        have HOCr := Lib.hid (show OwnC w1.heap.size w4.heap.size wr (.slice (some ⟨gl, 0, none⟩) A.length cl) A csl from ⟨ownsRow_block HOCr.out.1 (fun g e => hb5.block g (HOCr.out.1.lt g e).2), HOCr.out.2.1, HOCr.out.2.2.below hb5⟩)
        have HBl := Lib.hid (HBl.out.trans (hb5.mono hw2r))
        have hszr : w4.heap.size ≤ wr.heap.size := Nat.le_trans hszr hb5.size
        have hw2r := HBl.out.size
        have hcl := cell_below hb5 hcl hgl9
        have hgl9 : gl < wr.heap.size := Nat.lt_of_lt_of_le hgl9 hb5.size
        have HV := Lib.hid HO.out.lt
        clear hb5 HF
        go_wp2_with (at_builtin; refine wpList_append_lies _ rfl _ _ 22 rfl w.heap.size 30 i0 (.slice none 0 0) 1 24 Try.underlying22 hi hz0 hz1 hz2 rfl (by decide) (.slice pp sel.length cp) sel.length (sel.map fun j => csl.getD j undef) rfl (HO.out.alloc _) ⟨wr.heap.size, 0, none⟩ 1 1 [.slice sa sl sc] rfl rfl (cell_one_new _ _ _) (by simp [Value.oneCell']) (by omega) (by unfold maxLen; omega) (by omega) (by simp; omega) _ rfl ?_; intro gg cap w7 hown' hgrow hat _)
        have hstay : ∀ g, g < wr.heap.size → (∀ g', (Value.slice pp sel.length cp).ownBlock = some g' → g ≠ g') → w7.heap[g]? = wr.heap[g]? := fun g hg hne => (hgrow.block g (by simp; omega) (fun e => hne g e.symm rfl)).trans (Below.heap_alloc wr _ g hg)
        have HO2 := Lib.hid (show w7.ownsRow w.heap.size 30 1 (.slice (some ⟨gg, 0, none⟩) (selTo p (k + 1)).length cap) (selTo p (k + 1)).length ((selTo p (k + 1)).map fun j => csl.getD j undef) from by
          rw [HM.out, List.map_append, List.length_append]
          show w7.ownsRow _ _ _ _ _ (_ ++ [csl.getD k undef])
          rw [HVS.out]; exact hown')
        have HB2' := Lib.hid ((HBl.out.alloc hw2r _).grown hgrow (by simp; omega) (fun g e => (HV.out g e).1))
        have HOC2 := Lib.hid (show OwnC w1.heap.size w4.heap.size w7 (.slice (some ⟨gl, 0, none⟩) A.length cl) A csl from
          ⟨ownsRow_block HOCr.out.1 (fun g e => hstay g (HOCr.out.1.lt g e).2 (fun g' e' => by have h1 := HOCr.out.1.lt g e; have h2 := HOCr.out.2.1 g e; have h3 := HAT.out g' e'; omega)), HOCr.out.2.1, HOCr.out.2.2.keep (fun g h1 h2 h3 _ => hstay g h3 (fun g' e' => by have h4 := HAT.out g' e'; omega))⟩)
        have HAT2 := Lib.hid (show ∀ g, (Value.slice (some ⟨gg, 0, none⟩) (selTo p (k + 1)).length cap).ownBlock = some g → g < w1.heap.size ∨ w4.heap.size ≤ g from fun g e => by
          obtain rfl : gg = g := by simpa [Value.ownBlock] using e
          rcases hat with ha | ha
          · exact HAT.out gg ha
          · simp at ha; omega)
        have hs7 : w4.heap.size ≤ w7.heap.size := by have := hgrow.size; simp at this; omega
        clear hown' hgrow hat hstay
        go_wp2_with fail
        go_roundw
        case rel => exact ⟨k + 1, some ⟨gg, 0, none⟩, cap, by omega, by go_num, by rw [HM.out, List.length_append]; rfl, HO2.out, HAT2.out, HB2'.out, hs7, HOC2.out⟩
        case measure => simp [intOf]; omega
    · obtain rfl : k = N := by omega
      have hrs := rows_sel hoc.2.2 (selTo p k) (sel_nodup p k) (fun j hj => by rw [HAL.out]; exact sel_lt hj)
      have HF := Lib.hid (show MadeG ((selTo p k).map fun j => A.getD j []) w (.returned (.slice pp (selTo p k).length cp)) wr from ⟨_, rfl, ⟨(selTo p k).map fun j => csl.getD j undef, by rw [List.length_map]; exact hown, fun g e => (hown.lt g e).2, hrs.mono (by omega) hszr⟩, hbel⟩)
      clear hown hoc hrs hbel hat0
      go_wp2_with fail
      go_ret
      exact HF.out
set_option maxRecDepth 100000 in
set_option maxHeartbeats 4000000 in
theorem spec_no (a : Option Addr) (rows : List (List Int)) (c : Nat) (w : World) (hr : grid.Reads w a rows) (hn : rows.length ≤ 1048576) (hm : ∀ r ∈ rows, r.length ≤ 1048576) (hk : classB rows = false) :
    Calls Try.prog 31 #[.slice a rows.length c] w (RetGB [] false w) := by
  have HC := Lib.hid (fun (wa : World) (hb : Below w.heap.size w wa) => classs.spec_class a rows c wa (hr.below hb) hn hm false (Lib.hid hk))
  clear hr hm hk
  go_enter Try.func31, Try.ntmps31
  go_wp2_with fail
  refine (HC.out _ (Below.refl _ _)).mono ?_
  rintro e w' ⟨rfl, m9, rfl⟩
  go_wp2_with fail
  go_ret2
  have hz9 := World.ownsRow_made (base := (w.drewN m9).heap.size) (e := 30) (size := 1) (w.drewN m9) #[] 0 (Nat.le_refl _) (by unfold maxLen; omega) rfl
  exact ⟨_, rfl, (show OwnG (w.drewN m9).heap.size ((w.drewN m9).alloc (.cells #[] 30)).heap.size ((w.drewN m9).alloc (.cells #[] 30)) (.slice (some ⟨(w.drewN m9).heap.size, 0, none⟩) 0 0) [] from ⟨[], hz9, fun g e => (hz9.lt g e).2, RowsOf.nil _ _ _⟩).mono (ints.below_drewN (Below.refl w.heap.size w) m9).size (Nat.le_refl _), (ints.below_drewN (Below.refl w.heap.size w) m9).alloc (ints.below_drewN (Below.refl w.heap.size w) m9).size _⟩
set_option maxRecDepth 100000 in
set_option maxHeartbeats 4000000 in
theorem spec_yes (a : Option Addr) (rows : List (List Int)) (c : Nat) (w : World) (hr : grid.Reads w a rows) (hn : rows.length ≤ 1048576) (hm : ∀ r ∈ rows, r.length ≤ 1048576) (hk : classB rows = true) :
    Calls Try.prog 31 #[.slice a rows.length c] w (RetGB (shL rows (rows.getD 0 []).length) true w) := by
  have HC := Lib.hid (fun (wa : World) (hb : Below w.heap.size w wa) => classs.spec_class a rows c wa (hr.below hb) hn hm true (Lib.hid hk))
  have HT := Lib.hid (fun (wa : World) (hb : Below w.heap.size w wa) => spec_shattered a rows c wa (hr.below hb) hk)
  generalize shL rows (rows.getD 0 []).length = T at *
  clear hr hm hk
  go_enter Try.func31, Try.ntmps31
  go_wp2_with fail
  refine (HC.out _ (Below.refl _ _)).mono ?_
  rintro e w' ⟨rfl, m9, rfl⟩
  go_wp2_with fail
  refine (HT.out _ (ints.below_drewN (Below.refl w.heap.size w) m9)).mono ?_
  rintro e w4 ⟨v, rfl, ho, hb4⟩
  have HF := Lib.hid (show RetGB T true w (.returned (.tuple #[v, .bool true])) w4 from ⟨v, rfl, ho, (ints.below_drewN (Below.refl w.heap.size w) m9).trans hb4⟩)
  clear ho hb4
  go_wp2_with fail
  go_ret2
  exact HF.out
set_option maxRecDepth 100000 in
set_option maxHeartbeats 4000000 in
theorem closure (hv : Value) (B : Nat) (a : Option Addr) (rows : List (List Int)) (c : Nat) (sp : Option Addr) (s : List Int) (sc : Nat) (w : World) (he : hv = .slice sp s.length sc) (x0 : w.cell? ⟨B, 0, none⟩ = some (.slice a rows.length c)) (hr : grid.Reads w a rows) (hq : ints.Reads .i64 w sp s) {m : Nat} (hC : Cls rows m) (hin : Inside m s) (h8 : s.length ≤ 8) (ok : Bool) (hok : shatB rows s = ok) :
    Calls Try.prog 67 #[hv, .pointer (some ⟨B, 0, none⟩)] w (fun e w' => e = .returned (.bool (!ok)) ∧ Below w.heap.size w w') := by
  subst he
  have HC := Lib.hid (hadw.impl_shatters a rows c sp s sc w hr hq hC hin h8)
  rw [hok] at HC
  clear hr hq hC hin hok
  go_enter Try.func67, Try.ntmps67
  go_wp2_with fail
  refine HC.out.mono ?_
  rintro e w' ⟨rfl, hb⟩
  have HB := Lib.hid hb
  clear hb
  go_wp2_with fail
  go_ret
  exact ⟨rfl, HB.out⟩
set_option maxRecDepth 100000 in
set_option maxHeartbeats 4000000 in
theorem impl_no (a : Option Addr) (rows : List (List Int)) (c : Nat) (w : World) (hr : grid.Reads w a rows) (hn : rows.length ≤ 1048576) (hm : ∀ r ∈ rows, r.length ≤ 1048576) (hk : classB rows = false) :
    Calls Try.prog 32 #[.slice a rows.length c] w (RetGB [] false w) := by
  have HC := Lib.hid (fun (wa : World) (hb : Below w.heap.size w wa) => classi.impl_class a rows c wa (hr.below hb) hn hm false (Lib.hid hk))
  clear hr hm hk
  go_enter Try.func32, Try.ntmps32
  obtain ⟨b1, hw1⟩ : ∃ b1 : World, b1 = w.alloc (.cells #[.slice a rows.length c] 22) := ⟨_, rfl⟩
  have z1 : b1.heap.size = w.heap.size + 1 := by rw [hw1]; simp
  have x0_0 := (by rw [hw1]; exact cell_new _ _ _ rfl rfl : b1.cell? ⟨w.heap.size, 0, none⟩ = some (.slice a rows.length c))
  have HB0 := Lib.hid (show Below w.heap.size w b1 by rw [hw1]; exact (Below.refl w.heap.size w).alloc (Nat.le_refl _) _)
  have s1 : w.heap.size + 1 ≤ b1.heap.size := by omega
  clear z1
  go_wp2_with fail
  rw [← hw1]
  clear hw1
  refine (HC.out _ HB0.out).mono ?_
  rintro e w' ⟨rfl, m9, rfl⟩
  go_wp2_with fail
  go_ret2
  have hz9 := World.ownsRow_made (base := (b1.drewN m9).heap.size) (e := 30) (size := 1) (b1.drewN m9) #[] 0 (Nat.le_refl _) (by unfold maxLen; omega) rfl
  exact ⟨_, rfl, (show OwnG (b1.drewN m9).heap.size ((b1.drewN m9).alloc (.cells #[] 30)).heap.size ((b1.drewN m9).alloc (.cells #[] 30)) (.slice (some ⟨(b1.drewN m9).heap.size, 0, none⟩) 0 0) [] from ⟨[], hz9, fun g e => (hz9.lt g e).2, RowsOf.nil _ _ _⟩).mono (ints.below_drewN HB0.out m9).size (Nat.le_refl _), (ints.below_drewN HB0.out m9).alloc (ints.below_drewN HB0.out m9).size _⟩
set_option maxRecDepth 100000 in
set_option maxHeartbeats 4000000 in
theorem impl_yes (a : Option Addr) (rows : List (List Int)) (c : Nat) (w : World) (hr : grid.Reads w a rows) (hn : rows.length ≤ 1048576) (hm : ∀ r ∈ rows, r.length ≤ 1048576) (hk : classB rows = true) :
    Calls Try.prog 32 #[.slice a rows.length c] w (RetGB (shL rows (rows.getD 0 []).length) true w) := by
  have HC := Lib.hid (fun (wa : World) (hb : Below w.heap.size w wa) => classi.impl_class a rows c wa (hr.below hb) hn hm true (Lib.hid hk))
  have hC := cls_of hk
  obtain ⟨b0, off0, p0, q0, rfl, hc0, hlen, h8⟩ := classt.row0 hr hk
  have hbl : b0 < w.heap.size := World.block_lt_of_cell? w _ hc0
  have HCC := Lib.hid hC
  have HR := Lib.hid hr
  have h256 := hC.top
  obtain ⟨m, hm0⟩ : ∃ m, (rows.getD 0 []).length = m := ⟨_, rfl⟩
  rw [hm0] at hc0 h8 HCC ⊢
  have HS := Lib.hid (fun (wa : World) => setss.impl_sets m wa h8)
  have hp12 := bits8.pow8 h8
  have HAL := Lib.hid (all_length m)
  have HSL := Lib.hid (show shL rows m = (selTo (shB rows m) (2 ^ m)).map (fun k => (allS m).getD k []) from rfl)
  have HS8 := Lib.hid (fun (k : Nat) (hkk : k < (allS m).length) => set8 h8 hkk)
  have HSB := Lib.hid (fun k => show shatB rows ((allS m).getD k []) = shB rows m k from rfl)
  rw [HSL.out]
  generalize shB rows m = p at *
  generalize allS m = A at *
  generalize 2 ^ m = N at *
  have i3 : (0 : Int) < (rows.length : Int) := by omega
  clear hr hk hC hm0 HSL hm
  go_enter Try.func32, Try.ntmps32
  obtain ⟨b1, hw1⟩ : ∃ b1 : World, b1 = w.alloc (.cells #[.slice (some ⟨b0, off0, none⟩) rows.length c] 22) := ⟨_, rfl⟩
  have z1 : b1.heap.size = w.heap.size + 1 := by rw [hw1]; simp
  have x0_0 := (by rw [hw1]; exact cell_new _ _ _ rfl rfl : b1.cell? ⟨w.heap.size, 0, none⟩ = some (.slice (some ⟨b0, off0, none⟩) rows.length c))
  have HB0 := Lib.hid (show Below w.heap.size w b1 by rw [hw1]; exact (Below.refl w.heap.size w).alloc (Nat.le_refl _) _)
  have s1 : w.heap.size + 1 ≤ b1.heap.size := by omega
  clear z1
  go_wp2_with fail
  rw [← hw1]
  clear hw1
  refine (HC.out _ HB0.out).mono ?_
  rintro e w' ⟨rfl, m9, rfl⟩
  have y0 : (b1.drewN m9).cell? ⟨w.heap.size, 0, none⟩ = some (.slice (some ⟨b0, off0, none⟩) rows.length c) := x0_0
  have hc1 : (b1.drewN m9).cell? ⟨b0, off0, none⟩ = some (.slice p0 m q0) := cell_below HB0.out hc0 hbl
  have HBd := Lib.hid (ints.below_drewN HB0.out m9)
  have sd : w.heap.size + 1 ≤ (b1.drewN m9).heap.size := s1
  generalize b1.drewN m9 = w2 at *
  go_wp2_with fail
  refine (HS.out _).mono ?_
  rintro e w4 ⟨v, rfl, hol, hb4⟩
  obtain ⟨csl, hoc⟩ := hol
  have hN1 : 1 ≤ A.length := by rw [HAL.out]; exact hp12.1
  obtain ⟨gl, cl, hvl, hgl⟩ := own_form hoc.1 hN1
  subst hvl
  have s4 : w2.heap.size ≤ w4.heap.size := hb4.size
  have HB4 := Lib.hid (HBd.out.trans (hb4.mono (by omega)))
  have y4 := cell_below hb4 y0 (by omega)
  have hgl2 := (hoc.1.lt gl rfl).1
  have HOC := Lib.hid hoc
  have HD := Lib.hid (del1 67 (enters_of Try.func67 (by kernel_rfl) rfl) (.pointer (some ⟨w.heap.size, 0, none⟩)) w2.heap.size gl A.length cl csl p w4 (by rw [HAL.out]; omega) hoc.1 (fun k hk => by obtain ⟨pa, cc, he, _⟩ := own_cell HOC.out rfl hk; exact ⟨pa, _, cc, he⟩)
    (Lib.hid (fun k wr hk hst => by
      obtain ⟨pa, cc, he, _, hoi⟩ := own_cell HOC.out rfl hk
      have hst2 : Stir (fun b => b = gl) w w4 → True := fun _ => trivial
      have hblk : ∀ b, b < w4.heap.size → b ≠ gl → wr.heap[b]? = w4.heap[b]? := fun b hb hne => hst.block b hb hne
      have hrr : grid.Reads wr (some ⟨b0, off0, none⟩) rows := HR.out.below ⟨hst.os.trans HB4.out.os, hst.tape.trans HB4.out.tape, hst.output.trans HB4.out.output, Nat.le_trans HB4.out.size hst.size, fun b hb => (hblk b (Nat.lt_of_lt_of_le hb HB4.out.size) (by omega)).trans (HB4.out.block b hb)⟩
      have hq := (hoi.block (w' := wr) (fun g9 e9 => hblk g9 (hoi.lt e9).2.2 (fun e7 => by
        subst e7
        have := ownsRow_ne hoi.1 HOC.out.1 (by decide) e9
        exact this rfl))).reads
      have hy : wr.cell? ⟨w.heap.size, 0, none⟩ = some (.slice (some ⟨b0, off0, none⟩) rows.length c) := (World.cell?_of_block (hblk w.heap.size (by omega) (by omega))).trans y4
      exact closure _ w.heap.size (some ⟨b0, off0, none⟩) rows c pa (A.getD k []) cc wr he hy hrr hq HCC.out (HS8.out k hk).1 (HS8.out k hk).2 (p k) (HSB.out k))))
  rw [HAL.out] at HD ⊢
  clear hb4 HS hN1 hoc y4 y0 hc1 hc0
  go_wp2_with fail
  refine HD.out.mono ?_
  rintro e w5 ⟨rfl, ho5, hst5⟩
  have hrs := (rows_sel (HOC.out.2.2.keep (w' := w5) (fun g h1 h2 h3 hbb => hst5.block g h3 (fun e7 => by
    subst e7
    obtain ⟨i, hi9, hbk⟩ := hbb
    exact ownsRow_ne (HOC.out.2.2.2.1 i hi9).1 HOC.out.1 (by decide) hbk rfl))) (selTo p N) (sel_nodup p N) (fun j hj => by rw [HAL.out]; exact sel_lt hj))
  have hs5 := hst5.size
  have HF := Lib.hid (show RetGB ((selTo p N).map fun j => A.getD j []) true w (.returned (.tuple #[.slice (some ⟨gl, 0, none⟩) (selTo p N).length cl, .bool true])) w5 from
    ⟨_, rfl, ⟨(selTo p N).map fun j => csl.getD j undef, by rw [List.length_map]; exact ownsRow_base ho5 (fun g e => by have := (ho5.lt g e).1; omega), fun g e => (ho5.lt g e).2, hrs.mono (by omega) hs5⟩,
      ⟨hst5.os.trans HB4.out.os, hst5.tape.trans HB4.out.tape, hst5.output.trans HB4.out.output, Nat.le_trans HB4.out.size hs5, fun b hb => (hst5.block b (by omega) (by omega)).trans (HB4.out.block b hb)⟩⟩)
  clear ho5 hst5 hrs HD
  go_wp2_with fail
  go_ret2
  exact HF.out
end Go.Proofs.Ytncidajjeccbkaa.shatl
