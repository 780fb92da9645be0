/- The walks of TeachingNumber: the model's and the program's. -/
import Derived.Test.YtncidajjeccbkaaTeachL
import Derived.Test.YtncidajjeccbkaaMost
namespace Go.Proofs.Ytncidajjeccbkaa.teachn
open Go.RowKit own pp nums bitn setcmp setord edge setsp cls classt atw rising teachp teachs teachi teachl most
set_option linter.unusedVariables false
set_option linter.unusedSimpArgs false

/-- The greatest number of places of the first k sets that teach. -/
def tnTo (rows : List (List Int)) (m : Nat) : Nat → Nat
  | 0 => 0
  | k + 1 => max (tnTo rows m k) (teachS rows m k).length
theorem tn_le {rows : List (List Int)} {m : Nat} (hC : Cls rows m) : ∀ k, k ≤ rows.length → tnTo rows m k ≤ 8
  | 0, _ => Nat.zero_le _
  | k + 1, h => by
    rw [tnTo]
    have h1 := tn_le hC k (by omega)
    have h2 := (set_inside (getD_mem (allS m) [] _ (idx_lt hC (i := k) (by omega)))).2
    have h3 := hC.m8
    have h4 : (teachS rows m k).length ≤ m := h2
    omega
set_option maxRecDepth 100000 in
set_option maxHeartbeats 4000000 in
theorem spec_no (a : Option Addr) (rows : List (List Int)) (c : Nat) (w : World) (hr : grid.Reads w a rows) (hcp : rows.length ≤ c) (hn : rows.length ≤ 1048576) (hm : ∀ r ∈ rows, r.length ≤ 1048576) (hk : classB rows = false) :
    Calls Try.prog 40 #[.slice a rows.length c] w (RetNB 0 false w) := by
  have HC := Lib.hid (fun (wa : World) (hb : Below w.heap.size w wa) => classs.spec_class a rows c wa (hr.below hb) hn hm false (Lib.hid hk))
  clear hr hk hm
  go_enter Try.func40, Try.ntmps40
  go_wp2_with fail
  refine (HC.out _ (Below.refl _ _)).mono ?_
  rintro e w' ⟨rfl, m, rfl⟩
  go_wp2_with fail
  go_ret2
  exact ⟨rfl, ints.below_drewN (Below.refl _ _) m⟩
set_option maxRecDepth 100000 in
set_option maxHeartbeats 4000000 in
theorem spec_yes (a : Option Addr) (rows : List (List Int)) (c : Nat) (w : World) (hr : grid.Reads w a rows) (hcp : rows.length ≤ c) (hn : rows.length ≤ 1048576) (hm : ∀ r ∈ rows, r.length ≤ 1048576) (hk : classB rows = true) :
    Calls Try.prog 40 #[.slice a rows.length c] w (RetNB ((tnTo rows (rows.getD 0 []).length rows.length : Nat) : Int) true w) := by
  have HC := Lib.hid (fun (wa : World) (hb : Below w.heap.size w wa) => classs.spec_class a rows c wa (hr.below hb) hn hm true (Lib.hid hk))
  have hC := cls_of hk
  have HT := Lib.hid (fun (i : Nat) (hi : i < rows.length) (wa : World) (hb : Below w.heap.size w wa) => spec_teach a rows c i wa (hr.below hb) hk hi)
  have HLE := Lib.hid (fun k (h : k ≤ rows.length) => tn_le hC k h)
  have HSU := Lib.hid (show ∀ k, tnTo rows (rows.getD 0 []).length (k + 1) = max (tnTo rows (rows.getD 0 []).length k) (teachS rows (rows.getD 0 []).length k).length from fun k => rfl)
  have HZ := Lib.hid (show tnTo rows (rows.getD 0 []).length 0 = 0 from rfl)
  have h256 := hC.top
  generalize (rows.getD 0 []).length = m0 at *
  clear hr hk hm hC
  go_enter Try.func40, Try.ntmps40
  go_wp2_with fail
  refine (HC.out _ (Below.refl _ _)).mono ?_
  rintro e w' ⟨rfl, m, rfl⟩
  go_wp2_with fail
  go_loopw [4, 5] (fun v z wr => ∃ k : Nat, k ≤ rows.length ∧ z = .int .i64 k ∧ v = .int .i64 ((tnTo rows m0 k : Nat) : Int) ∧ Below w.heap.size w wr) (fun _ z _ => rows.length - (intOf z).toNat)
  case atStart => exact ⟨0, Nat.zero_le _, rfl, by rw [HZ.out]; rfl, ints.below_drewN (Below.refl _ _) m⟩
  case round =>
    obtain ⟨k, hk, rfl, rfl, hbel⟩ := hrel
    have HBl := Lib.hid hbel
    have hsz := hbel.size
    by_cases hlt : k < rows.length
    · have HTk := Lib.hid (HT.out k hlt wr hbel)
      have HSk := Lib.hid (HSU.out k)
      have hle := HLE.out k hk
      have i1 : (k : Int) < (rows.length : Int) := by omega
      clear hbel
      generalize teachS rows m0 k = s at *
      generalize tnTo rows m0 k = tk at *
      go_wp2_with fail
      refine HTk.out.mono ?_
      rintro e w4 ⟨v, rfl, ho, hb4⟩
      obtain ⟨ga, gc, rfl, _, _, _⟩ := ho.slice
      have HB4 := Lib.hid (HBl.out.trans (hb4.mono hsz))
      clear ho hb4 HTk
      go_wp2_with fail
      refine (most_any _ _ _).mono ?_
      rintro e w' ⟨rfl, rfl⟩
      go_wp2_with fail
      go_roundw
      case rel => exact ⟨k + 1, by omega, by go_num, by rw [HSk.out]; congr 1; omega, HB4.out⟩
      case measure => simp [intOf]; omega
    · obtain rfl : k = rows.length := by omega
      have HF := Lib.hid (show RetNB ((tnTo rows m0 rows.length : Nat) : Int) true w (.returned (.tuple #[.int .i64 ((tnTo rows m0 rows.length : Nat) : Int), .bool true])) wr from ⟨rfl, hbel⟩)
      clear hbel
      go_wp2_with fail
      go_ret2
      exact HF.out
set_option maxRecDepth 100000 in
set_option maxHeartbeats 4000000 in
theorem impl_no (a : Option Addr) (rows : List (List Int)) (c : Nat) (w : World) (hr : grid.Reads w a rows) (hcp : rows.length ≤ c) (hn : rows.length ≤ 1048576) (hm : ∀ r ∈ rows, r.length ≤ 1048576) (hk : classB rows = false) :
    Calls Try.prog 41 #[.slice a rows.length c] w (RetNB 0 false w) := by
  have HC := Lib.hid (fun (wa : World) (hb : Below w.heap.size w wa) => classi.impl_class a rows c wa (hr.below hb) hn hm false (Lib.hid hk))
  clear hr hk hm
  go_enter Try.func41, Try.ntmps41
  go_wp2_with fail
  refine (HC.out _ (Below.refl _ _)).mono ?_
  rintro e w' ⟨rfl, m, rfl⟩
  go_wp2_with fail
  go_ret2
  exact ⟨rfl, ints.below_drewN (Below.refl _ _) m⟩
set_option maxRecDepth 100000 in
set_option maxHeartbeats 4000000 in
theorem impl_yes (a : Option Addr) (rows : List (List Int)) (c : Nat) (w : World) (hr : grid.Reads w a rows) (hcp : rows.length ≤ c) (hn : rows.length ≤ 1048576) (hm : ∀ r ∈ rows, r.length ≤ 1048576) (hk : classB rows = true) :
    Calls Try.prog 41 #[.slice a rows.length c] w (RetNB ((tnTo rows (rows.getD 0 []).length rows.length : Nat) : Int) true w) := by
  have HC := Lib.hid (fun (wa : World) (hb : Below w.heap.size w wa) => classi.impl_class a rows c wa (hr.below hb) hn hm true (Lib.hid hk))
  have hC := cls_of hk
  obtain ⟨b0, off0, p0, q0, rfl, hc0, hlen, h8⟩ := classt.row0 hr hk
  have hbl : b0 < w.heap.size := by obtain ⟨_, _, _, _, hb⟩ := row_cell hr hlen; exact hb
  have HS := Lib.hid (fun (wa : World) => setss.impl_sets (rows.getD 0 []).length wa h8)
  have HT := Lib.hid (fun (i : Nat) (hi : i < rows.length) (lo hi' : Nat) (v : Value) (wa : World) (hb : Below w.heap.size w wa) (ho : OwnG lo hi' wa v (allS (rows.getD 0 []).length)) (hlo : hi' ≤ wa.heap.size) => impl_first (some ⟨b0, off0, none⟩) rows c i lo hi' v wa (hr.below hb) hcp hk hi ho hlo)
  have HLE := Lib.hid (fun k (h : k ≤ rows.length) => tn_le hC k h)
  have HSU := Lib.hid (show ∀ k, tnTo rows (rows.getD 0 []).length (k + 1) = max (tnTo rows (rows.getD 0 []).length k) (teachS rows (rows.getD 0 []).length k).length from fun k => rfl)
  have HZ := Lib.hid (show tnTo rows (rows.getD 0 []).length 0 = 0 from rfl)
  have h256 := hC.top
  have i3 : (0 : Int) < (rows.length : Int) := by omega
  obtain ⟨m0, hm0⟩ : ∃ m0, (rows.getD 0 []).length = m0 := ⟨_, rfl⟩
  rw [hm0] at HS HT HLE HSU HZ hc0 h8 ⊢
  generalize allS m0 = L at *
  clear hr hk hm hC hm0
  go_enter Try.func41, Try.ntmps41
  go_wp2_with fail
  refine (HC.out _ (Below.refl _ _)).mono ?_
  rintro e w' ⟨rfl, m, rfl⟩
  have hc1 : (w.drewN m).cell? ⟨b0, off0, none⟩ = some (.slice p0 m0 q0) := hc0
  go_wp2_with fail
  refine (HS.out _).mono ?_
  rintro e w4 ⟨v, rfl, ho, hb4⟩
  have HB4 := Lib.hid (show Below w.heap.size w w4 from (ints.below_drewN (Below.refl _ _) m).trans hb4)
  have HO := Lib.hid (show OwnG w.heap.size w4.heap.size w4 v L from ho)
  have s4 : w.heap.size ≤ w4.heap.size := HB4.out.size
  clear ho hb4 hc1 hc0 HS
  obtain ⟨ga, gc, rfl, _, _, _⟩ := HO.out.slice
  go_wp2_with fail
  go_loopw [5, 17] (fun v z wr => ∃ k : Nat, k ≤ rows.length ∧ z = .int .i64 k ∧ v = .int .i64 ((tnTo rows m0 k : Nat) : Int) ∧ Below w4.heap.size w4 wr) (fun _ z _ => rows.length - (intOf z).toNat)
  case atStart => exact ⟨0, Nat.zero_le _, rfl, by rw [HZ.out]; rfl, Below.refl _ _⟩
  case round =>
    obtain ⟨k, hk, rfl, rfl, hbel⟩ := hrel
    have HBl := Lib.hid hbel
    have hsz := hbel.size
    by_cases hlt : k < rows.length
    · have HTk := Lib.hid (HT.out k hlt _ _ _ wr (HB4.out.trans (hbel.mono s4)) (HO.out.below hbel) hsz)
      have HSk := Lib.hid (HSU.out k)
      have hle := HLE.out k hk
      have i1 : (k : Int) < (rows.length : Int) := by omega
      clear hbel
      generalize teachS rows m0 k = s at *
      generalize tnTo rows m0 k = tk at *
      go_wp2_with fail
      refine HTk.out.mono ?_
      rintro e w5 ⟨v, rfl, ho, hb5⟩
      obtain ⟨ga, gc, rfl, _, _, _⟩ := ho.slice
      have HB5 := Lib.hid (HBl.out.trans (hb5.mono hsz))
      clear ho hb5 HTk
      go_wp2_with fail
      go_roundw
      case rel => exact ⟨k + 1, by omega, by go_num, by rw [HSk.out]; congr 1; omega, HB5.out⟩
      case measure => simp [intOf]; omega
    · obtain rfl : k = rows.length := by omega
      have HF := Lib.hid (show RetNB ((tnTo rows m0 rows.length : Nat) : Int) true w (.returned (.tuple #[.int .i64 ((tnTo rows m0 rows.length : Nat) : Int), .bool true])) wr from ⟨rfl, HB4.out.trans (hbel.mono s4)⟩)
      clear hbel
      go_wp2_with fail
      go_ret2
      exact HF.out
end Go.Proofs.Ytncidajjeccbkaa.teachn
