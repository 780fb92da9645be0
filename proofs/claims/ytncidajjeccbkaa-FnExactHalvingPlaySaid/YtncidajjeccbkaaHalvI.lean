/- The walks of the program's play by halving. -/
import Derived.Test.YtncidajjeccbkaaHalvP
import Derived.Test.YtncidajjeccbkaaClassT
import Derived.Test.YtncidajjeccbkaaSetsN
import Derived.Test.YtncidajjeccbkaaMk
import Derived.Deep.AppendLies
import Derived.BigQuiet
namespace Go.Proofs.Ytncidajjeccbkaa.halvi
open Go.RowKit own pp nums setcmp setord cls classt atw rising diffw halvp setsn
set_option linter.unusedVariables false
set_option linter.unusedSimpArgs false

/-- A slice whose elements are the headers of some rows. -/
def Heads (w : World) (a : Option Addr) (sel : List Nat) (hd : Nat → Value) : Prop := ∀ k, k < sel.length → ∃ b off, a = some ⟨b, off, none⟩ ∧ b < w.heap.size ∧ w.cell? ⟨b, off + k, none⟩ = some (hd (sel.getD k 0))
def Rows (w : World) (rows : List (List Int)) (hd : Nat → Value) (m : Nat) : Prop := ∀ j, j < rows.length → ∃ p c, hd j = .slice p m c ∧ ints.Reads .i64 w p (rows.getD j []) ∧ (rows.getD j []).length = m
theorem Rows.below {w w' : World} {rows : List (List Int)} {hd : Nat → Value} {m : Nat} (h : Rows w rows hd m) (hb : Below w.heap.size w w') : Rows w' rows hd m := fun j hj => by
  obtain ⟨p, c, h1, h2, h3⟩ := h j hj
  exact ⟨p, c, h1, h2.below hb, h3⟩
theorem Heads.below {w w' : World} {a : Option Addr} {sel : List Nat} {hd : Nat → Value} (h : Heads w a sel hd) (hb : Below w.heap.size w w') : Heads w' a sel hd := fun k hk => by
  obtain ⟨b, off, e, hl, hc⟩ := h k hk
  exact ⟨b, off, e, Nat.lt_of_lt_of_le hl hb.size, cell_below hb hc hl⟩
set_option maxRecDepth 100000 in
set_option maxHeartbeats 4000000 in
theorem impl_common (la : Option Addr) (lc : Nat) (sel : List Nat) (hd : Nat → Value) (rows : List (List Int)) (m x : Nat) (w : World) (hH : Heads w la sel hd) (hR : Rows w rows hd m) (hS : ∀ j ∈ sel, j < rows.length) (hx : x < m) (h256 : sel.length ≤ 256) (h8 : m ≤ 8) (hb1 : ∀ j, j ∈ sel → (rows.getD j []).getD x 0 = 1 ∨ (rows.getD j []).getD x 0 = -1) :
    Calls Try.prog 82 #[.slice la sel.length lc, .int .i64 x] w ((fun e w' => e = .returned (.int .i64 (if sumTo rows sel x sel.length < 0 then -1 else 1)) ∧ w' = w)) := by
  have HBD := Lib.hid (fun k h => sum_bd hb1 k h)
  have HST := Lib.hid (fun k => show sumTo rows sel x (k + 1) = sumTo rows sel x k + (rows.getD (sel.getD k 0) []).getD x 0 from rfl)
  obtain ⟨res, hres⟩ : ∃ r, (if sumTo rows sel x sel.length < 0 then (-1 : Int) else 1) = r := ⟨_, rfl⟩
  have HRS := Lib.hid hres
  have HB1 := Lib.hid hb1
  rw [hres]
  clear hres hb1
  go_enter Try.func82, Try.ntmps82
  go_wp2_with fail
  go_loop [5, 10] (fun v z => ∃ k : Nat, k ≤ sel.length ∧ z = .int .i64 k ∧ v = .int .i64 (sumTo rows sel x k)) (fun _ z => sel.length - (intOf z).toNat)
  case atStart => exact ⟨0, Nat.zero_le _, rfl, rfl⟩
  case round =>
    obtain ⟨k, hk, rfl, rfl⟩ := hrel
    by_cases hlt : k < sel.length
    · skip
      obtain ⟨b, off, rfl, hb, hc⟩ := hH k hlt
      have hjm := hS _ (getD_mem sel 0 k hlt)
      obtain ⟨p, c, he, hr, hl⟩ := hR _ hjm
      rw [he] at hc
      have hxr : x < (rows.getD (sel.getD k 0) []).length := by omega
      obtain ⟨b2, o2, rfl, hb2, hc2⟩ := hr.at hxr
      have i1 : (0 : Int) ≤ (k : Int) := by omega
      have i2 : (k : Int) < (sel.length : Int) := by omega
      have i3 : (0 : Int) ≤ (x : Int) := by omega
      have i4 : (x : Int) < (m : Int) := by omega
      have hbd := HBD.out k hk
      have hpm := HB1.out _ (getD_mem sel 0 k hlt)
      have HS := Lib.hid (HST.out k)
      clear he hr hl hxr
      generalize (rows.getD (sel.getD k 0) []).getD x 0 = y at *
      generalize sumTo rows sel x k = s at *
      have e1 : IntKind.i64.wrap (s + y) = s + y := IntWalk.i64_in _ (by omega)
      clear hpm hbd
      go_wp2_with fail
      go_round
      case rel => exact ⟨k + 1, by omega, by go_num, by rw [HS.out]⟩
      case measure => simp [intOf]; omega
    · obtain rfl : k = sel.length := by omega
      by_cases hs : sumTo rows sel x sel.length < 0
      · have g0 : decide (sumTo rows sel x sel.length < 0) = true := decide_eq_true hs
        obtain rfl : res = -1 := by rw [← HRS.out, if_pos hs]
        clear hs HRS
        generalize sumTo rows sel x sel.length = s at *
        go_wp2_with fail
        go_ret
        exact ⟨rfl, rfl⟩
      · have g0 : decide (sumTo rows sel x sel.length < 0) = false := decide_eq_false hs
        obtain rfl : res = 1 := by rw [← HRS.out, if_neg hs]
        clear hs HRS
        generalize sumTo rows sel x sel.length = s at *
        go_wp2_with fail
        go_ret
        exact ⟨rfl, rfl⟩
/-- Those of the first k that have a label. -/
def hvTo (rows : List (List Int)) (sel : List Nat) (x : Nat) (z : Int) (k : Nat) : List Nat := (sel.take k).filter fun j => (rows.getD j []).getD x 0 == z
theorem hv_hit {rows : List (List Int)} {sel : List Nat} {x : Nat} {z : Int} {k : Nat} (hk : k < sel.length) (h : (rows.getD (sel.getD k 0) []).getD x 0 = z) : hvTo rows sel x z (k + 1) = hvTo rows sel x z k ++ [sel.getD k 0] := by
  unfold hvTo
  rw [List.take_succ_eq_append_getElem hk, List.filter_append]
  have e : sel.getD k 0 = sel[k] := by rw [List.getD_eq_getElem?_getD, List.getElem?_eq_getElem hk]; rfl
  rw [e] at h ⊢
  have hb : ((rows.getD sel[k] []).getD x 0 == z) = true := beq_iff_eq.2 h
  rw [List.filter_cons_of_pos (p := fun j => (rows.getD j []).getD x 0 == z) hb, List.filter_nil]
theorem hv_miss {rows : List (List Int)} {sel : List Nat} {x : Nat} {z : Int} {k : Nat} (hk : k < sel.length) (h : (rows.getD (sel.getD k 0) []).getD x 0 ≠ z) : hvTo rows sel x z (k + 1) = hvTo rows sel x z k := by
  unfold hvTo
  rw [List.take_succ_eq_append_getElem hk, List.filter_append]
  have e : sel.getD k 0 = sel[k] := by rw [List.getD_eq_getElem?_getD, List.getElem?_eq_getElem hk]; rfl
  rw [e] at h
  have hb : ¬ ((rows.getD sel[k] []).getD x 0 == z) = true := fun h2 => h (beq_iff_eq.1 h2)
  rw [List.filter_cons_of_neg (p := fun j => (rows.getD j []).getD x 0 == z) hb, List.filter_nil, List.append_nil]
theorem hv_length (rows : List (List Int)) (sel : List Nat) (x : Nat) (z : Int) (k : Nat) : (hvTo rows sel x z k).length ≤ sel.length := by
  unfold hvTo
  refine Nat.le_trans (List.length_filter_le _ _) ?_
  rw [List.length_take]; omega
/-- An own list of headers. -/
def OwnH (lo : Nat) (w : World) (v : Value) (sel : List Nat) (hd : Nat → Value) : Prop := w.ownsRow lo 30 1 v sel.length (sel.map hd)
theorem OwnH.heads {lo : Nat} {w : World} {v : Value} {sel : List Nat} {hd : Nat → Value} (h : OwnH lo w v sel hd) : ∃ a c, v = .slice a sel.length c ∧ Heads w a sel hd := by
  rcases h.2 with ⟨rfl, h0⟩ | ⟨g, cap, cur, rfl, hb, hh, hn, hm, hs, ht⟩
  · refine ⟨none, 0, by rw [h0], fun k hk => by omega⟩
  · refine ⟨some ⟨g, 0, none⟩, cap, rfl, fun k hk => ⟨g, 0, rfl, (Array.getElem?_eq_some_iff.1 hh).1, ?_⟩⟩
    have := World.ownsRow.cellAt h k (by omega)
    rw [Nat.zero_add, this, List.getElem?_map, List.getElem?_eq_getElem hk, List.getD_eq_getElem?_getD, List.getElem?_eq_getElem hk]; rfl
set_option maxRecDepth 100000 in
set_option maxHeartbeats 4000000 in
theorem impl_having (la : Option Addr) (lc : Nat) (sel : List Nat) (hd : Nat → Value) (rows : List (List Int)) (m x : Nat) (w : World) (hH : Heads w la sel hd) (hR : Rows w rows hd m) (hS : ∀ j ∈ sel, j < rows.length) (hx : x < m) (h256 : sel.length ≤ 256) (h8 : m ≤ 8) (z : Int) :
    Calls Try.prog 83 #[.slice la sel.length lc, .int .i64 x, .int .i64 z] w ((fun e w' => ∃ v, e = .returned v ∧ OwnH w.heap.size w' v (sel.filter fun j => (rows.getD j []).getD x 0 == z) hd ∧ Below w.heap.size w w')) := by
  obtain ⟨i0, hi, hz0, hz1, hz2⟩ := info_parts setsn.infoSl
  have HALL := Lib.hid (show hvTo rows sel x z sel.length = (sel.filter fun j => (rows.getD j []).getD x 0 == z) from by unfold hvTo; rw [List.take_length])
  rw [← HALL.out]
  have HHH := Lib.hid hH
  have HRR := Lib.hid hR
  have HSS := Lib.hid hS
  have HHL := Lib.hid (fun k => hv_length rows sel x z k)
  clear hH hR hS HALL
  go_enter Try.func83, Try.ntmps83
  go_wp2_with fail
  have hown0 := World.ownsRow_made (base := w.heap.size) (e := 30) (size := 1) w #[] 0 (Nat.le_refl _) (by unfold maxLen; omega) rfl
  have hb0 := below_alloc w (.cells #[] 30)
  go_loopw [7, 13] (fun v q wr => ∃ k : Nat, k ≤ sel.length ∧ q = .int .i64 k ∧ wr.ownsRow w.heap.size 30 1 v (hvTo rows sel x z k).length ((hvTo rows sel x z k).map hd) ∧ Below w.heap.size w wr) (fun _ q _ => sel.length - (intOf q).toNat)
  case atStart => exact ⟨0, Nat.zero_le _, rfl, hown0, hb0⟩
  case round =>
    obtain ⟨k, hk, rfl, hown, hbel⟩ := hrel
    clear hown0 hb0
    have HV := Lib.hid hown.lt
    have HBl := Lib.hid hbel
    have hsz := hbel.size
    by_cases hlt : k < sel.length
    · have hH := HHH.out.below hbel
      have hR := HRR.out.below hbel
      have hS := HSS.out
      obtain ⟨b, off, rfl, hb, hc⟩ := hH k hlt
      have hjm := hS _ (getD_mem sel 0 k hlt)
      obtain ⟨p, c, he, hr, hl⟩ := hR _ hjm
      rw [he] at hc
      have hxr : x < (rows.getD (sel.getD k 0) []).length := by omega
      obtain ⟨b2, o2, rfl, hb2, hc2⟩ := hr.at hxr
      have i1 : (0 : Int) ≤ (k : Int) := by omega
      have i2 : (k : Int) < (sel.length : Int) := by omega
      have i3 : (0 : Int) ≤ (x : Int) := by omega
      have i4 : (x : Int) < (m : Int) := by omega
      have hlen := HHL.out k
      have HO := Lib.hid hown
      have HE := Lib.hid he
      have HH := Lib.hid (fun h => hv_hit (rows := rows) (x := x) (z := z) hlt h)
      have HM := Lib.hid (fun h => hv_miss (rows := rows) (x := x) (z := z) hlt h)
      clear he hr hl hxr hown hbel hH hR hS hjm
      generalize (rows.getD (sel.getD k 0) []).getD x 0 = y at *
      by_cases hy : y = z
      · have HM2 := Lib.hid (HH.out hy)
        have g0 : (y == z) = true := by rw [beq_iff_eq]; exact hy
        clear HH HM hy
        generalize sel.getD k 0 = jj at *
        generalize hvTo rows sel x z k = ms at *
        go_wp2_with (at_builtin; refine wpList_append_own _ rfl _ _ 22 rfl w.heap.size 30 i0 (.slice none 0 0) 1 24 Try.underlying22 hi hz0 hz1 hz2 rfl (by decide) _ _ _ rfl (HO.out.alloc _) ⟨wr.heap.size, 0, none⟩ 1 1 [.slice (some ⟨b2, o2, none⟩) m c] rfl rfl (cell_one_new _ _ _) (by simp [Value.oneCell']) (by unfold maxLen; omega) (by omega) (by simp; omega) ?_; intro v' w2 hown' hgrow _)
        obtain ⟨g', cap', hv'⟩ := ownsRow_succ hown'
        subst hv'
        have HO2 := Lib.hid hown'
        have HB2 := Lib.hid ((HBl.out.alloc hsz _).grown hgrow (by simp; omega) (fun g e => (HV.out g e).1))
        clear hown' hgrow
        go_wp2_with fail
        go_roundw
        case rel => exact ⟨k + 1, by omega, by go_num, by rw [HM2.out, List.map_append, List.length_append, List.map_singleton, HE.out]; exact HO2.out, HB2.out⟩
        case measure => simp [intOf]; omega
      · have HM2 := Lib.hid (HM.out hy)
        have g0 : (y == z) = false := by rw [beq_eq_false_iff_ne]; exact hy
        clear HH HM hy
        generalize sel.getD k 0 = jj at *
        generalize hvTo rows sel x z k = ms at *
        go_wp2_with fail
        go_roundw
        case rel => exact ⟨k + 1, by omega, by go_num, by rw [HM2.out]; exact HO.out, HBl.out⟩
        case measure => simp [intOf]; omega
    · obtain rfl : k = sel.length := by omega
      have HF := Lib.hid (show ∃ v, Ending.returned u7 = .returned v ∧ OwnH w.heap.size wr v (hvTo rows sel x z sel.length) hd ∧ Below w.heap.size w wr from ⟨u7, rfl, hown, hbel⟩)
      clear hown hbel
      go_wp2_with fail
      go_ret
      exact HF.out
theorem wrong_eq {y s : Int} (hy : y = 1 ∨ y = -1) : (y != (if s < 0 then -1 else 1)) = (decide (0 ≤ s) != (y == 1)) := by
  by_cases h : s < 0
  · rw [if_pos h, decide_eq_false (by omega)]
    rcases hy with rfl | rfl <;> rfl
  · rw [if_neg h, decide_eq_true (by omega)]
    rcases hy with rfl | rfl <;> rfl
set_option maxRecDepth 100000 in
set_option maxHeartbeats 4000000 in
theorem impl_no1 (a : Option Addr) (rows : List (List Int)) (c : Nat) (t : Int) (ao : Option Addr) (order : List Int) (co : Nat) (w : World) (hr : grid.Reads w a rows) (hq : ints.Reads .i64 w ao order) (hn : rows.length ≤ 1048576) (hm : ∀ r ∈ rows, r.length ≤ 1048576) (hz : order.length ≤ 1048576) (hk : hypoB rows t = false) :
    Calls Try.prog 45 #[.slice a rows.length c, .int .i64 t, .slice ao order.length co] w (RetIB [] false w) := by
  have HC := Lib.hid (fun (wa : World) (hb : Below w.heap.size w wa) => classt.impl_hypo a rows c t wa (hr.below hb) hn hm false (Lib.hid hk))
  clear hr hq hm hk
  go_enter Try.func45, Try.ntmps45
  go_wp2_with fail
  refine (HC.out _ (Below.refl _ _)).mono ?_
  rintro e w' ⟨rfl, m9, rfl⟩
  go_wp2_with fail
  go_ret2
  exact ret_empty (ints.below_drewN (Below.refl _ _) m9)
set_option maxRecDepth 100000 in
set_option maxHeartbeats 4000000 in
theorem impl_no2 (a : Option Addr) (rows : List (List Int)) (c : Nat) (t : Int) (ao : Option Addr) (order : List Int) (co : Nat) (w : World) (hr : grid.Reads w a rows) (hq : ints.Reads .i64 w ao order) (hn : rows.length ≤ 1048576) (hm : ∀ r ∈ rows, r.length ≤ 1048576) (hz : order.length ≤ 1048576) (hk : hypoB rows t = true) (hd : diffB (rows.getD 0 []).length order = false) :
    Calls Try.prog 45 #[.slice a rows.length c, .int .i64 t, .slice ao order.length co] w (RetIB [] false w) := by
  have HC := Lib.hid (fun (wa : World) (hb : Below w.heap.size w wa) => classt.impl_hypo a rows c t wa (hr.below hb) hn hm true (Lib.hid hk))
  obtain ⟨b0, off0, p0, q0, rfl, hc0, hlen, h8⟩ := classt.row0 hr ((hypo_iff _ _).1 hk).1
  have HD := Lib.hid (fun (wa : World) (hb : Below w.heap.size w wa) => diff_any (rows.getD 0 []).length ao order co wa (hq.below hb) h8 false hz (Lib.hid hd))
  have i3 : (0 : Int) < (rows.length : Int) := by omega
  generalize rows.getD 0 [] = r0 at *
  clear hr hq hm hk hd
  go_enter Try.func45, Try.ntmps45
  go_wp2_with fail
  refine (HC.out _ (Below.refl _ _)).mono ?_
  rintro e w' ⟨rfl, m9, rfl⟩
  have hc1 : (w.drewN m9).cell? ⟨b0, off0, none⟩ = some (.slice p0 r0.length q0) := hc0
  go_wp2_with fail
  refine (HD.out _ (ints.below_drewN (Below.refl _ _) m9)).mono ?_
  rintro e w3 ⟨rfl, hb3⟩
  have HB3 := Lib.hid ((ints.below_drewN (Below.refl w.heap.size w) m9).trans hb3)
  clear hb3
  go_wp2_with fail
  go_ret2
  exact ret_empty HB3.out
set_option maxRecDepth 100000 in
set_option maxHeartbeats 4000000 in
theorem impl_yes (a : Option Addr) (rows : List (List Int)) (c : Nat) (t : Nat) (ao : Option Addr) (order : List Int) (co : Nat) (w : World) (hr : grid.Reads w a rows) (hq : ints.Reads .i64 w ao order) (hn : rows.length ≤ 1048576) (hm : ∀ r ∈ rows, r.length ≤ 1048576) (hz : order.length ≤ 1048576) (hcl : classB rows = true) (ht : t < rows.length) (hd : diffB (rows.getD 0 []).length order = true) :
    Calls Try.prog 45 #[.slice a rows.length c, .int .i64 t, .slice ao order.length co] w (RetIB (playTo rows t order order.length) true w) := by
  have hk : hypoB rows (t : Int) = true := (hypo_iff _ _).2 ⟨hcl, by omega, by omega⟩
  have HC := Lib.hid (fun (wa : World) (hb : Below w.heap.size w wa) => classt.impl_hypo a rows c t wa (hr.below hb) hn hm true (Lib.hid hk))
  obtain ⟨i0, hi, hz0, hz1, hz2⟩ := info_parts mk.infoInt
  obtain ⟨b0, off0, p0, q0, rfl, hc0, hlen, h8⟩ := classt.row0 hr hcl
  have hC := cls_of hcl
  have h256 := hC.top
  have HDF := Lib.hid (fun (wa : World) (hb : Below w.heap.size w wa) => diff_any (rows.getD 0 []).length ao order co wa (hq.below hb) h8 true hz (Lib.hid hd))
  have HIN := Lib.hid (diff_inside hd)
  have HPM := Lib.hid (fun j (hj : j < rows.length) x (hx : x < (rows.getD 0 []).length) => hC.at hj hx)
  have HLN := Lib.hid (fun j (hj : j < rows.length) => hC.len j hj)
  have i3 : (0 : Int) < (rows.length : Int) := by omega
  obtain ⟨m, hm0⟩ : ∃ m, (rows.getD 0 []).length = m := ⟨_, rfl⟩
  rw [hm0] at HDF HIN HPM HLN h8 hc0
  have HR := Lib.hid hr
  have HQ := Lib.hid hq
  obtain ⟨hd9, hhd⟩ : ∃ hd : Nat → Value, ∀ j, j < rows.length → w.cell? ⟨b0, off0 + j, none⟩ = some (hd j) := ⟨fun j => (w.cell? ⟨b0, off0 + j, none⟩).getD undef, fun j hj => by
    obtain ⟨b9, o9, p9, c9, e9, _, h9, _, _⟩ := hr.at hj
    cases e9
    show w.cell? ⟨b0, off0 + j, none⟩ = some ((w.cell? ⟨b0, off0 + j, none⟩).getD undef)
    rw [h9]; rfl⟩
  have hbl : b0 < w.heap.size := World.block_lt_of_cell? w _ hc0
  have HRW := Lib.hid (show Rows w rows hd9 m from fun j hj => by
    obtain ⟨b9, o9, p9, c9, e9, _, h9, _, hr9⟩ := hr.at hj
    cases e9
    have := Option.some.inj ((hhd j hj).symm.trans h9)
    exact ⟨p9, c9, by rw [this, HLN.out j hj], hr9, HLN.out j hj⟩)
  have HH0 := Lib.hid (show ∀ wa : World, Below w.heap.size w wa → Heads wa (some ⟨b0, off0, none⟩) (vsel rows t order 0) hd9 from fun wa hb k hk => by
    rw [vsel_zero] at hk ⊢
    have hk2 : k < rows.length := by simpa using hk
    refine ⟨b0, off0, rfl, Nat.lt_of_lt_of_le hbl hb.size, ?_⟩
    rw [List.getD_eq_getElem?_getD, List.getElem?_eq_getElem hk]
    simp only [List.getElem_range, Option.getD_some]
    exact cell_below hb (hhd k hk2) hbl)
  have HL0 := Lib.hid (show (vsel rows t order 0).length = rows.length from by rw [vsel_zero, List.length_range])
  have HVL := Lib.hid (fun i => vsel_length rows t order i)
  have HVM := Lib.hid (fun i j (h : j ∈ vsel rows t order i) => vsel_lt h)
  have HVS := Lib.hid (fun i (hi : i < order.length) => vsel_succ rows t order i hi)
  have HWB := Lib.hid (fun i => show wrongB rows t order i = (decide (0 ≤ sumTo rows (vsel rows t order i) (order.getD i 0).toNat (vsel rows t order i).length) != ((rows.getD t []).getD (order.getD i 0).toNat 0 == 1)) from rfl)
  have HPS := Lib.hid (fun i => show playTo rows t order (i + 1) = if wrongB rows t order i = true then playTo rows t order i ++ [order.getD i 0] else playTo rows t order i from rfl)
  have HP0 := Lib.hid (show playTo rows t order 0 = [] from rfl)
  have HPL := Lib.hid (fun i => play_length rows t order i)
  have hol : order.length ≤ m := by rw [← hm0]; exact diff_len hd
  clear hr hq hm hk hd hcl hC hm0 hhd
  go_enter Try.func45, Try.ntmps45
  go_wp2_with fail
  refine (HC.out _ (Below.refl _ _)).mono ?_
  rintro e w' ⟨rfl, m9, rfl⟩
  have hc1 : (w.drewN m9).cell? ⟨b0, off0, none⟩ = some (.slice p0 m q0) := hc0
  go_wp2_with fail
  refine (HDF.out _ (ints.below_drewN (Below.refl _ _) m9)).mono ?_
  rintro e w3 ⟨rfl, hb3⟩
  have HB3 := Lib.hid (show Below w.heap.size w w3 from (ints.below_drewN (Below.refl w.heap.size w) m9).trans hb3)
  have hs3 := HB3.out.size
  clear hb3 hc1 hc0 HDF HC
  go_wp2_with fail
  have hown0 := (own_empty w3).1
  have hb0 := below_alloc w3 (.cells #[] 3)
  go_loopw [8, 9, 31] (fun lv v z wr => ∃ (k : Nat) (la : Option Addr) (lc : Nat), k ≤ order.length ∧ z = .int .i64 k ∧ lv = .slice la (vsel rows t order k).length lc ∧ Heads wr la (vsel rows t order k) hd9 ∧ wr.ownsRow w3.heap.size 3 1 v (playTo rows t order k).length ((playTo rows t order k).map (Value.int .i64)) ∧ (∀ b off, la = some ⟨b, off, none⟩ → ∀ g, v.ownBlock = some g → b ≠ g) ∧ Below w3.heap.size w3 wr) (fun _ _ z _ => order.length - (intOf z).toNat)
  case atStart =>
    refine ⟨0, some ⟨b0, off0, none⟩, c, Nat.zero_le _, rfl, by rw [HL0.out], HH0.out _ (HB3.out.trans (hb0.mono hs3)), by rw [HP0.out]; exact hown0, fun b off e g e2 => ?_, hb0⟩
    cases e
    have e3 : w3.heap.size = g := by simpa [Value.ownBlock] using e2
    omega
  case round =>
    clear hown0 hb0
    obtain ⟨k, la, lc, hk, rfl, rfl, hH, hown, hne, hbel⟩ := hrel
    have hsz := hbel.size
    have HBW := Lib.hid (HB3.out.trans (hbel.mono hs3))
    by_cases hlt : k < order.length
    · obtain ⟨bo, oo, rfl, hbo, hco⟩ := (HQ.out.below HBW.out).at hlt
      obtain ⟨hx0, hx1⟩ := HIN.out k hlt
      obtain ⟨x, hx⟩ : ∃ x : Nat, order.getD k 0 = (x : Int) := ⟨(order.getD k 0).toNat, by omega⟩
      have hxm : x < m := by omega
      obtain ⟨b9, o9, p9, c9, e9, hb9, hc9, _, hr9⟩ := (HR.out.below HBW.out).at ht
      cases e9
      have hlt9 := HLN.out t ht
      obtain ⟨b8, o8, rfl, hb8, hc8⟩ := hr9.at (k := x) (by omega)
      have hy := HPM.out t ht x hxm
      have HWk := Lib.hid (HWB.out k)
      have HVk := Lib.hid (HVS.out k hlt)
      have HPk := Lib.hid (HPS.out k)
      rw [hx, Int.toNat_natCast] at HWk HVk
      rw [hx] at HPk hco
      rw [hlt9] at hc9
      have hvl := HVL.out k
      have HCM := Lib.hid (fun (h : True) => impl_common la lc (vsel rows t order k) hd9 rows m x wr hH (HRW.out.below HBW.out) (fun j hj => HVM.out k j hj) hxm (by omega) h8 (fun j hj => HPM.out j (HVM.out k j hj) x hxm))
      have HHV := Lib.hid (fun (wa : World) (hb : Below w.heap.size w wa) (hH2 : Heads wa la (vsel rows t order k) hd9) (z : Int) => impl_having la lc (vsel rows t order k) hd9 rows m x wa hH2 (HRW.out.below hb) (fun j hj => HVM.out k j hj) hxm (by omega) h8 z)
      have HWE := Lib.hid (fun (y s : Int) (hy : y = 1 ∨ y = -1) => wrong_eq (y := y) (s := s) hy)
      have HH := Lib.hid hH
      have HO := Lib.hid hown
      have HNE := Lib.hid hne
      have HV := Lib.hid hown.lt
      have HBl := Lib.hid hbel
      have i1 : (0 : Int) ≤ (k : Int) := by omega
      have i2 : (k : Int) < (order.length : Int) := by omega
      have i4 : (0 : Int) ≤ (x : Int) := by omega
      have i5 : (x : Int) < (m : Int) := by omega
      have i6 : (0 : Int) ≤ (t : Int) := by omega
      have i7 : (t : Int) < (rows.length : Int) := by omega
      have hpl := HPL.out k
      clear hH hown hne hbel hx0 hx1 hx hr9 hlt9
      rw [← HWE.out _ _ hy] at HWk
      generalize (rows.getD t []).getD x 0 = y at *
      generalize vsel rows t order k = sel at *
      generalize sumTo rows sel x sel.length = s at *
      replace HCM := Lib.hid (HCM.out trivial)
      generalize (if s < 0 then (-1 : Int) else 1) = cm at *
      go_wp2_with fail
      refine HCM.out.mono ?_
      rintro e w' ⟨rfl, hww⟩
      rw [hww]
      clear hww w'
      cases hw : wrongB rows t order k
      · have HM := Lib.hid (show playTo rows t order (k + 1) = playTo rows t order k from by rw [HPk.out, hw, if_neg (by simp)])
        have g0 : (y != cm) = false := by rw [← HWk.out]; exact hw
        have HHk := Lib.hid (HHV.out _ HBW.out HH.out y)
        rw [← HVk.out] at HHk
        clear hw HPk HWk HHV
        generalize playTo rows t order k = ms at *
        go_wp2_with fail
        refine HHk.out.mono ?_
        rintro e w5 ⟨v5, rfl, hoh, hb5⟩
        obtain ⟨la2, lc2, rfl, hh2⟩ := hoh.heads
        have HO5 := Lib.hid (ownsRow_block HO.out (fun g e => hb5.block g (HO.out.lt g e).2))
        have HB5 := Lib.hid (HBl.out.trans (hb5.mono hsz))
        have HNE5 := Lib.hid (show ∀ b off, la2 = some ⟨b, off, none⟩ → ∀ g, u9.ownBlock = some g → b ≠ g from fun b off e g e2 => by
          subst e
          have h1 := (hoh.lt b rfl).1
          have h2 := (HV.out g e2).2
          omega)
        have HH5 := Lib.hid hh2
        clear hoh hb5 hh2 HHk
        go_wp2_with fail
        go_roundw
        case rel => exact ⟨k + 1, la2, lc2, by omega, by go_num, rfl, HH5.out, by rw [HM.out]; exact HO5.out, HNE5.out, HB5.out⟩
        case measure => simp [intOf]; omega
      · have HM := Lib.hid (show playTo rows t order (k + 1) = playTo rows t order k ++ [(x : Int)] from by rw [HPk.out, hw, if_pos rfl])
        have g0 : (y != cm) = true := by rw [← HWk.out]; exact hw
        clear hw HPk HWk
        generalize playTo rows t order k = ms at *
        go_wp2_with (at_builtin; refine wpList_append_lies _ rfl _ _ 30 rfl w3.heap.size 3 i0 (.int .i64 0) 1 8 Try.underlying30 hi hz0 hz1 hz2 rfl (by decide) u9 ms.length (ms.map (Value.int .i64)) rfl (HO.out.alloc _) ⟨wr.heap.size, 0, none⟩ 1 1 [.int .i64 (x : Nat)] rfl rfl (cell_one_new _ _ _) (by simp [Value.oneCell']) (by omega) (by unfold maxLen; omega) (by omega) (by simp; omega) _ rfl ?_; intro gg cap w4 hown' hgrow hat _)
        have HO4 := Lib.hid hown'
        have hs4 : wr.heap.size ≤ w4.heap.size := by have := hgrow.size; simp at this; omega
        have HB4 := Lib.hid ((HBl.out.alloc hsz _).grown hgrow (by simp; omega) (fun g e => (HV.out g e).1))
        have hh4 : Heads w4 la sel hd9 := fun j hj => by
          obtain ⟨b, off, e, hb, hc⟩ := HH.out j hj
          refine ⟨b, off, e, Nat.lt_of_lt_of_le hb hs4, ?_⟩
          have h1 := hgrow.block b (by simp; omega) (fun e2 => HNE.out b off e b e2.symm rfl)
          exact (World.cell?_of_block (h1.trans (Below.heap_alloc wr _ b hb))).trans hc
        have hvg := hown'.lt gg rfl
        have HHk := Lib.hid (HHV.out w4 (HB3.out.trans (HB4.out.mono hs3)) hh4 y)
        rw [← HVk.out] at HHk
        clear hown' hgrow hat hh4 HHV HH
        go_wp2_with fail
        refine HHk.out.mono ?_
        rintro e w5 ⟨v5, rfl, hoh, hb5⟩
        obtain ⟨la2, lc2, rfl, hh2⟩ := hoh.heads
        have HO5 := Lib.hid (ownsRow_block HO4.out (fun g e => hb5.block g (HO4.out.lt g e).2))
        have HB5 := Lib.hid (HB4.out.trans (hb5.mono (by omega)))
        have HNE5 := Lib.hid (show ∀ b off, la2 = some ⟨b, off, none⟩ → ∀ g, (Value.slice (some ⟨gg, 0, none⟩) (ms.length + 1) cap).ownBlock = some g → b ≠ g from fun b off e g e2 => by
          subst e
          have h1 := (hoh.lt b rfl).1
          obtain rfl : gg = g := by simpa [Value.ownBlock] using e2
          omega)
        have HH5 := Lib.hid hh2
        clear hoh hb5 hh2 HHk
        go_wp2_with fail
        go_roundw
        case rel => exact ⟨k + 1, la2, lc2, by omega, by go_num, rfl, HH5.out, by rw [HM.out, List.map_append, List.length_append]; exact HO5.out, HNE5.out, HB5.out⟩
        case measure => simp [intOf]; omega
    · obtain rfl : k = order.length := by omega
      have HF := Lib.hid (show RetIB (playTo rows t order order.length) true w (.returned (.tuple #[u9, .bool true])) wr from ⟨u9, rfl, (OwnI.of hown).mono hs3 (Nat.le_refl _), HBW.out⟩)
      clear hown hH hne hbel
      go_wp2_with fail
      go_ret2
      exact HF.out
end Go.Proofs.Ytncidajjeccbkaa.halvi
