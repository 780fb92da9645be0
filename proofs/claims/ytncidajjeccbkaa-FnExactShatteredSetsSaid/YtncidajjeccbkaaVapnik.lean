/- The walks of VapnikNumber: the model's and the program's. -/
import Derived.Test.YtncidajjeccbkaaShatL
namespace Go.Proofs.Ytncidajjeccbkaa.vapnik
open Go.RowKit own pp nums bitn setcmp setord edge cls classt atw rising tracep shatw setsn setsp setss delf shatl
set_option linter.unusedVariables false
set_option linter.unusedSimpArgs false

theorem first_empty : ∀ m : Fin 9, (sevS m.val).getD 0 [] = [] := by decide +kernel
theorem sh_zero {rows : List (List Int)} {m : Nat} (hC : Cls rows m) : shB rows m 0 = true := by
  unfold shB
  rw [← sev_all hC.m8, first_empty ⟨m, by have := hC.m8; omega⟩]
  unfold shatB
  rw [List.all_eq_true]
  intro k hk
  have hk0 : k = 0 := by have := List.mem_range.1 hk; simp at this; exact this
  subst hk0
  exact (had_iff rows [] 0).2 ⟨0, hC.one, rfl⟩
theorem sh_pos {rows : List (List Int)} {m : Nat} (hC : Cls rows m) : 1 ≤ (shL rows m).length := by
  unfold shL
  rw [List.length_map]
  have h : 0 ∈ selTo (shB rows m) (2 ^ m) := List.mem_filter.2 ⟨List.mem_range.2 (Nat.two_pow_pos m), sh_zero hC⟩
  exact List.length_pos_of_mem h
theorem tot_le (l : List (List Int)) (B : Nat) (h : ∀ r ∈ l, r.length ≤ B) : grid.tot l ≤ l.length * B := by
  induction l with
  | nil => simp [grid.tot]
  | cons x l ih =>
    have h1 := h x (by simp)
    have h2 := ih (fun r hr => h r (by simp [hr]))
    unfold grid.tot at *
    rw [List.map_cons, List.sum_cons, List.length_cons, Nat.succ_mul]; omega
theorem sh_size {rows : List (List Int)} {m : Nat} (hC : Cls rows m) : (shL rows m).length ≤ 256 ∧ grid.tot (shL rows m) ≤ 2048 := by
  have hp := bits8.pow8 hC.m8
  have h1 : (shL rows m).length ≤ 256 := by
    unfold shL
    rw [List.length_map]
    have := sel_length (shB rows m) (2 ^ m)
    omega
  have h2 := tot_le (shL rows m) 8 (fun r hr => by
    unfold shL at hr
    obtain ⟨k, hk, rfl⟩ := List.mem_map.1 hr
    exact (set8 hC.m8 (by rw [all_length]; exact sel_lt hk)).2)
  omega
/-- The greatest number of places of a set that is shattered. -/
def vapN (rows : List (List Int)) (m : Nat) : Nat := ((shL rows m).getD ((shL rows m).length - 1) []).length
set_option maxRecDepth 100000 in
set_option maxHeartbeats 4000000 in
theorem spec_no (a : Option Addr) (rows : List (List Int)) (c : Nat) (w : World) (hr : grid.Reads w a rows) (hn : rows.length ≤ 1048576) (hm : ∀ r ∈ rows, r.length ≤ 1048576) (hk : classB rows = false) :
    Calls Try.prog 33 #[.slice a rows.length c] w (RetNB 0 false w) := by
  have HC := Lib.hid (fun (wa : World) (hb : Below w.heap.size w wa) => classs.spec_class a rows c wa (hr.below hb) hn hm false (Lib.hid hk))
  clear hr hm hk
  go_enter Try.func33, Try.ntmps33
  go_wp2_with fail
  refine (HC.out _ (Below.refl _ _)).mono ?_
  rintro e w' ⟨rfl, m9, rfl⟩
  go_wp2_with fail
  go_ret2
  exact ⟨rfl, (ints.below_drewN (Below.refl w.heap.size w) m9)⟩
set_option maxRecDepth 100000 in
set_option maxHeartbeats 4000000 in
theorem spec_yes (a : Option Addr) (rows : List (List Int)) (c : Nat) (w : World) (hr : grid.Reads w a rows) (hn : rows.length ≤ 1048576) (hm : ∀ r ∈ rows, r.length ≤ 1048576) (hk : classB rows = true) :
    Calls Try.prog 33 #[.slice a rows.length c] w (RetNB ((vapN rows (rows.getD 0 []).length : Nat) : Int) true w) := by
  have HC := Lib.hid (fun (wa : World) (hb : Below w.heap.size w wa) => classs.spec_class a rows c wa (hr.below hb) hn hm true (Lib.hid hk))
  have hC := cls_of hk
  have HT := Lib.hid (fun (wa : World) (hb : Below w.heap.size w wa) => spec_shattered a rows c wa (hr.below hb) hk)
  have h1 := sh_pos hC
  have h2 := (sh_size hC).1
  have HVP := Lib.hid (show ((shL rows (rows.getD 0 []).length).getD ((shL rows (rows.getD 0 []).length).length - 1) []).length = vapN rows (rows.getD 0 []).length from rfl)
  generalize vapN rows (rows.getD 0 []).length = vp at *
  generalize shL rows (rows.getD 0 []).length = T at *
  have HTL := Lib.hid trivial
  clear hr hm hk hC
  go_enter Try.func33, Try.ntmps33
  go_wp2_with fail
  refine (HC.out _ (Below.refl _ _)).mono ?_
  rintro e w' ⟨rfl, m9, rfl⟩
  go_wp2_with fail
  refine (HT.out _ (ints.below_drewN (Below.refl w.heap.size w) m9)).mono ?_
  rintro e w4 ⟨v, rfl, ho, hb4⟩
  have HF := Lib.hid (show Below w.heap.size w w4 from (ints.below_drewN (Below.refl w.heap.size w) m9).trans hb4)
  clear hb4
  obtain ⟨csl, hoc⟩ := ho
  obtain ⟨g, cap, hvl, _⟩ := own_form hoc.1 (by omega)
  subst hvl
  obtain ⟨pa, cc, _, hcx, _⟩ := own_cell hoc rfl (k := T.length - 1) (by omega)
  obtain ⟨k, hk⟩ : ∃ k, T.length = k + 1 := ⟨T.length - 1, by omega⟩
  rw [hk, Nat.add_sub_cancel] at hcx
  have hvk : vp = (T.getD k []).length := by rw [← HVP.out, hk, Nat.add_sub_cancel]
  rw [← hvk] at hcx
  have hk256 : k ≤ 256 := by omega
  have iw : IntKind.i64.wrap (k : Int) = (k : Int) := IntWalk.i64_in _ (by omega)
  have i1 : (0 : Int) ≤ (k : Int) := by omega
  have i2 : (k : Int) < (k : Int) + 1 := by omega
  clear hoc hvk HVP HTL
  rw [hk]
  clear hk
  go_wp2_with fail
  go_ret2
  exact ⟨rfl, HF.out⟩
set_option maxRecDepth 100000 in
set_option maxHeartbeats 4000000 in
theorem impl_no (a : Option Addr) (rows : List (List Int)) (c : Nat) (w : World) (hr : grid.Reads w a rows) (hn : rows.length ≤ 1048576) (hm : ∀ r ∈ rows, r.length ≤ 1048576) (hk : classB rows = false) :
    Calls Try.prog 34 #[.slice a rows.length c] w (RetNB 0 false w) := by
  have HT := Lib.hid (shatl.impl_no a rows c w hr hn hm hk)
  clear hr hm hk
  go_enter Try.func34, Try.ntmps34
  go_wp2_with fail
  refine HT.out.mono ?_
  rintro e w4 ⟨v, rfl, ho, hb4⟩
  have HF := Lib.hid hb4
  clear hb4 ho
  go_wp2_with fail
  go_ret2
  exact ⟨rfl, HF.out⟩
set_option maxRecDepth 100000 in
set_option maxHeartbeats 4000000 in
theorem impl_yes (a : Option Addr) (rows : List (List Int)) (c : Nat) (w : World) (hr : grid.Reads w a rows) (hn : rows.length ≤ 1048576) (hm : ∀ r ∈ rows, r.length ≤ 1048576) (hk : classB rows = true) :
    Calls Try.prog 34 #[.slice a rows.length c] w (RetNB ((vapN rows (rows.getD 0 []).length : Nat) : Int) true w) := by
  have hC := cls_of hk
  have HT := Lib.hid (shatl.impl_yes a rows c w hr hn hm hk)
  have h1 := sh_pos hC
  have h2 := (sh_size hC).1
  have HVP := Lib.hid (show ((shL rows (rows.getD 0 []).length).getD ((shL rows (rows.getD 0 []).length).length - 1) []).length = vapN rows (rows.getD 0 []).length from rfl)
  generalize vapN rows (rows.getD 0 []).length = vp at *
  generalize shL rows (rows.getD 0 []).length = T at *
  have HTL := Lib.hid trivial
  clear hr hm hk hC
  go_enter Try.func34, Try.ntmps34
  go_wp2_with fail
  refine HT.out.mono ?_
  rintro e w4 ⟨v, rfl, ho, hb4⟩
  have HF := Lib.hid hb4
  clear hb4
  obtain ⟨csl, hoc⟩ := ho
  obtain ⟨g, cap, hvl, _⟩ := own_form hoc.1 (by omega)
  subst hvl
  obtain ⟨pa, cc, _, hcx, _⟩ := own_cell hoc rfl (k := T.length - 1) (by omega)
  obtain ⟨k, hk⟩ : ∃ k, T.length = k + 1 := ⟨T.length - 1, by omega⟩
  rw [hk, Nat.add_sub_cancel] at hcx
  have hvk : vp = (T.getD k []).length := by rw [← HVP.out, hk, Nat.add_sub_cancel]
  rw [← hvk] at hcx
  have hk256 : k ≤ 256 := by omega
  have iw : IntKind.i64.wrap (k : Int) = (k : Int) := IntWalk.i64_in _ (by omega)
  have i1 : (0 : Int) ≤ (k : Int) := by omega
  have i2 : (k : Int) < (k : Int) + 1 := by omega
  clear hoc hvk HVP HTL
  rw [hk]
  clear hk
  go_wp2_with fail
  go_ret2
  exact ⟨rfl, HF.out⟩
end Go.Proofs.Ytncidajjeccbkaa.vapnik
