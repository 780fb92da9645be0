/- The program's label of the neighbors among some places. -/
import Derived.Test.YtkbcofgigfnfaaaNearI
import Derived.Test.YtkbcofgigfnfaaaSamplesT
import Derived.Test.YtkbcofgigfnfaaaWhere3
import Derived.Test.YtkbcofgigfnfaaaFitsP
import Derived.Test.YtkbcofgigfnfaaaNlabP
import Derived.BigQuiet
namespace Go.Proofs.Ytkbcofgigfnfaaa.nlabi
open Go.RowKit own pp nums nearp chain squares dots mk neari nearq nlabp pwh fitsp
set_option linter.unusedVariables false
set_option linter.unusedSimpArgs false

set_option maxRecDepth 100000 in
set_option maxHeartbeats 1600000 in
theorem impl_nlab (a : Option Addr) (rows : List (List Int)) (c : Nat) (a' : Option Addr) (zs : List Int) (c' : Nat) (e : Option Addr) (ps : List Int) (d : Nat) (x : Option Addr) (xs : List Int) (q : Nat) (k : Nat) (w : World) (hr : grid.Reads w a rows) (hz : ints.Reads .i64 w a' zs) (hp : ints.Reads .i64 w e ps) (hx : ints.Reads .i64 w x xs) (hN : Nbr rows ps xs) (hL : Lab zs) (hlz : zs.length = rows.length) (hkk : k ≤ ps.length) :
    Calls Try.prog 69 #[.agg #[.slice a rows.length c, .slice a' zs.length c'], .slice e ps.length d, .slice x xs.length q, .int .i64 k] w (RetN (nlab rows zs ps xs k) w) := by
  have HNB := Lib.hid hN
  have HL := Lib.hid hL
  have HLZ := Lib.hid hlz
  clear hlz
  have Hhr := Lib.hid hr
  have Hhz := Lib.hid hz
  have Hhp := Lib.hid hp
  have Hhx := Lib.hid hx
  have HhN := Lib.hid hN
  have HhL := Lib.hid hL
  clear hr hz hp hx hN hL
  go_enter Try.func69, Try.ntmps69
  obtain ⟨wb1, hw1⟩ : ∃ wb1 : World, wb1 = w.alloc (.cells #[.slice a rows.length c, .slice a' zs.length c'] 29) := ⟨_, rfl⟩
  have z1 : wb1.heap.size = w.heap.size + 1 := by rw [hw1]; simp
  have x0_0 := (by rw [hw1]; exact cell_new _ _ _ rfl rfl : wb1.cell? ⟨w.heap.size, 0, none⟩ = some (.slice a rows.length c))
  have x0_1 := (by rw [hw1]; exact cell_new _ _ _ rfl rfl : wb1.cell? ⟨w.heap.size, 1, none⟩ = some (.slice a' zs.length c'))
  have HB0 := Lib.hid (show Below w.heap.size w wb1 by rw [hw1]; exact (Below.refl w.heap.size w).alloc (Nat.le_refl _) _)
  have s1 : w.heap.size + 1 ≤ wb1.heap.size := by omega
  have HZ1 := Lib.hid z1
  clear z1
  go_wp2_with fail
  rw [← hw1]
  clear hw1
  have hnk := near_at HNB.out (dist rows xs)
  have hlen : ((near (dist rows xs) ps).take k).length = k := by rw [List.length_take, show (near (dist rows xs) ps).length = ps.length from nearTo_length _ _ _]; omega
  have hat : ∀ j, j < k → 0 ≤ ((near (dist rows xs) ps).take k).getD j 0 ∧ ((near (dist rows xs) ps).take k).getD j 0 < (rows.length : Int) := fun j hj => by
    rw [show ((near (dist rows xs) ps).take k).getD j 0 = (near (dist rows xs) ps).getD j 0 from by simp [List.getD_eq_getElem?_getD, List.getElem?_take, hj]]
    exact hnk j (by omega)
  have HN1 := Lib.hid (impl_near a rows c a' zs c' e ps d x xs q k wb1 (Hhr.out.below HB0.out) (Hhp.out.below HB0.out) (Hhx.out.below HB0.out) HNB.out hkk)
  have HE := Lib.hid (show nlab rows zs ps xs k = lab (lsum zs ((near (dist rows xs) ps).take k) k) from by rw [lsum_take _ _ _ _ (Nat.le_refl _)]; rfl)
  have h16 : k ≤ 16 := by have := HNB.out.2.1; omega
  have HLN := Lib.hid hlen
  clear hnk hlen
  generalize nlab rows zs ps xs k = res at *
  generalize (near (dist rows xs) ps).take k = L at *
  have HAT := Lib.hid hat
  clear hat
  refine HN1.out.mono ?_
  rintro e' w2 ⟨v2, rfl, ho, hb⟩
  obtain ⟨a2, c2, rfl, hrL, _, _⟩ := ho.slice
  have hs2 := hb.size
  replace x0_0 := cell_below hb x0_0 (by omega)
  replace x0_1 := cell_below hb x0_1 (by omega)
  have HB2 := Lib.hid (HB0.out.trans (hb.mono (by omega)))
  have HRL := Lib.hid hrL
  have HZ2 := Lib.hid (Hhz.out.below HB2.out)
  clear hb ho hrL
  go_wp2_with fail
  go_loopw [9, 18] (fun s i wr => ∃ k1 : Nat, k1 ≤ k ∧ i = .int .i64 k1 ∧ s = .int .i64 (lsum zs L k1) ∧ Below w2.heap.size w2 wr) (fun _ i _ => k - (intOf i).toNat)
  case atStart => exact ⟨0, Nat.zero_le _, rfl, rfl, Below.refl _ _⟩
  case round =>
    obtain ⟨k1, hk1, rfl, rfl, hbel⟩ := hrel
    have hsz := hbel.size
    replace x0_0 := cell_below hbel x0_0 (by omega)
    replace x0_1 := cell_below hbel x0_1 (by omega)
    by_cases hlt : k1 < k
    · obtain ⟨bl, off, hab, hbl, hc⟩ := HRL.out.at (k := k1) (by have := HLN.out; omega)
      subst hab
      replace hc := cell_below hbel hc (by omega)
      obtain ⟨hp0, hp1⟩ := HAT.out k1 hlt
      obtain ⟨m, hm⟩ : ∃ m : Nat, L.getD k1 0 = (m : Int) := ⟨(L.getD k1 0).toNat, by omega⟩
      have HS := Lib.hid (show lsum zs L (k1 + 1) = lsum zs L k1 + zs.getD m 0 from by
        show lsum zs L k1 + zs.getD (L.getD k1 0).toNat 0 = _
        rw [hm, Int.toNat_natCast])
      rw [hm] at hc hp1
      obtain ⟨lb, lo, hlb, hll, hlc⟩ := HZ2.out.at (k := m) (by have := HLZ.out; omega)
      subst hlb
      replace hlc := cell_below hbel hlc (by omega)
      have hsb := lsum_bd zs L HL.out k1
      have hzb := HL.out m
      have HBl := Lib.hid hbel
      have i1 : (0 : Int) ≤ (k1 : Int) := by omega
      have i2 : (k1 : Int) < (L.length : Int) := by have := HLN.out; omega
      have i3 : (0 : Int) ≤ (m : Int) := by omega
      have i4 : (m : Int) < (zs.length : Int) := by have := HLZ.out; omega
      clear hbel hm hp0 hp1
      generalize L.getD k1 0 = y at *
      generalize zs.getD m 0 = z at *
      generalize lsum zs L k1 = s at *
      have e1 : IntKind.i64.wrap (s + z) = s + z := IntWalk.i64_in _ (by omega)
      go_wp2_with fail
      go_roundw
      case rel => exact ⟨k1 + 1, by omega, by go_num, by rw [HS.out], HBl.out⟩
      case measure => simp [intOf]; omega
    · obtain rfl : k1 = k := by omega
      have i2 : ¬ (k1 : Int) < (L.length : Int) := by have := HLN.out; omega
      have HBl := Lib.hid (HB2.out.trans (hbel.mono (by omega)))
      clear hbel
      generalize lsum zs L k1 = s at *
      go_wp2_with fail
      refine (impl_lab s _).mono ?_
      rintro e' w3 ⟨rfl, m, rfl⟩
      rw [← HE.out]
      go_wp2_with fail
      go_ret
      exact ⟨rfl, ints.below_drewN HBl.out _⟩
theorem placesTo_all (n : Nat) : placesTo (fun _ => true) n = mk.mk (fun i => (i : Int)) n := by
  unfold placesTo mk.mk
  rw [List.filter_eq_self.2 (fun _ _ => rfl)]
set_option maxHeartbeats 1000000 in
theorem all_closure (k : Nat) (w : World) :
    Calls Try.prog 118 #[.int .i64 k] w (fun e w' => e = .returned (.bool true) ∧ Below w.heap.size w w') := by
  go_enter Try.func118, Try.ntmps118
  go_wp2_with fail
  go_ret
  exact ⟨rfl, Below.refl _ _⟩
set_option maxRecDepth 100000 in
set_option maxHeartbeats 1600000 in
theorem impl_all (a : Option Addr) (rows : List (List Int)) (c : Nat) (a' : Option Addr) (zs : List Int) (c' : Nat) (w : World) (hn : rows.length ≤ 1048576) :
    Calls Try.prog 65 #[.agg #[.slice a rows.length c, .slice a' zs.length c']] w (intfns.Made (mk.mk (fun i => (i : Int)) rows.length) w) := by
  go_enter Try.func65, Try.ntmps65
  obtain ⟨wb1, hw1⟩ : ∃ wb1 : World, wb1 = w.alloc (.cells #[.slice a rows.length c, .slice a' zs.length c'] 29) := ⟨_, rfl⟩
  have z1 : wb1.heap.size = w.heap.size + 1 := by rw [hw1]; simp
  have x0_0 := (by rw [hw1]; exact cell_new _ _ _ rfl rfl : wb1.cell? ⟨w.heap.size, 0, none⟩ = some (.slice a rows.length c))
  have x0_1 := (by rw [hw1]; exact cell_new _ _ _ rfl rfl : wb1.cell? ⟨w.heap.size, 1, none⟩ = some (.slice a' zs.length c'))
  have HB0 := Lib.hid (show Below w.heap.size w wb1 by rw [hw1]; exact (Below.refl w.heap.size w).alloc (Nat.le_refl _) _)
  have s1 : w.heap.size + 1 ≤ wb1.heap.size := by omega
  have HZ1 := Lib.hid z1
  clear z1
  go_wp2_with fail
  rw [← hw1]
  clear hw1
  refine (where0 118 (enters_of Try.func118 (by kernel_rfl) rfl) rows.length (fun _ => true) wb1 hn (Lib.hid (fun k wr _ _ => all_closure k wr))).mono ?_
  rintro e' w2 ⟨v2, rfl, ho, hb⟩
  have HO := Lib.hid ho
  have HB2 := Lib.hid (HB0.out.trans (hb.mono (by omega)))
  clear ho hb
  rw [placesTo_all] at HO
  go_wp2_with fail
  go_ret
  exact ⟨_, rfl, HO.out.mono (by omega) (Nat.le_refl _), HB2.out⟩
set_option maxRecDepth 100000 in
set_option maxHeartbeats 1600000 in
theorem impl_for (a : Option Addr) (rows : List (List Int)) (c : Nat) (a' : Option Addr) (zs : List Int) (c' : Nat) (x : Option Addr) (xs : List Int) (q : Nat) (w : World) (hr : grid.Reads w a rows) (hx : ints.Reads .i64 w x xs) (hn : rows.length ≤ 1048576) (hm : xs.length ≤ 1048576) (hw : ∀ r ∈ rows, r.length ≤ 1048576) (ok : Bool) (h : Hid (fitsB rows xs = ok)) :
    Calls Try.prog 99 #[.agg #[.slice a rows.length c, .slice a' zs.length c'], .slice x xs.length q] w (RetB ok w) := by
  have Hhr := Lib.hid hr
  have Hhx := Lib.hid hx
  clear hr hx
  cases hp : pointB xs
  · have HP := Lib.hid hp
    have e9 : ok = false := by rw [← h.out]; unfold fitsB; rw [hp, Bool.false_and]
    subst e9
    clear h hp
    go_enter Try.func99, Try.ntmps99
    obtain ⟨wb1, hw1⟩ : ∃ wb1 : World, wb1 = w.alloc (.cells #[.slice a rows.length c, .slice a' zs.length c'] 29) := ⟨_, rfl⟩
    have z1 : wb1.heap.size = w.heap.size + 1 := by rw [hw1]; simp
    have x0_0 := (by rw [hw1]; exact cell_new _ _ _ rfl rfl : wb1.cell? ⟨w.heap.size, 0, none⟩ = some (.slice a rows.length c))
    have x0_1 := (by rw [hw1]; exact cell_new _ _ _ rfl rfl : wb1.cell? ⟨w.heap.size, 1, none⟩ = some (.slice a' zs.length c'))
    have HB0 := Lib.hid (show Below w.heap.size w wb1 by rw [hw1]; exact (Below.refl w.heap.size w).alloc (Nat.le_refl _) _)
    have s1 : w.heap.size + 1 ≤ wb1.heap.size := by omega
    have HZ1 := Lib.hid z1
    clear z1
    go_wp2_with fail
    rw [← hw1]
    clear hw1
    refine (impl_point x xs q wb1 (Hhx.out.below HB0.out) hm false HP).mono ?_
    rintro e' w' ⟨rfl, rfl⟩
    go_wp2_with fail
    go_ret
    exact ⟨rfl, HB0.out⟩
  have HP := Lib.hid hp
  by_cases h0 : rows.length = 0
  · have e9 : ok = true := by rw [← h.out]; unfold fitsB; rw [hp, show decide (rows.length = 0) = true by simpa using h0]; rfl
    subst e9
    have g : ((rows.length : Int) == 0) = true := by rw [h0]; rfl
    clear h hp h0
    go_enter Try.func99, Try.ntmps99
    obtain ⟨wb1, hw1⟩ : ∃ wb1 : World, wb1 = w.alloc (.cells #[.slice a rows.length c, .slice a' zs.length c'] 29) := ⟨_, rfl⟩
    have z1 : wb1.heap.size = w.heap.size + 1 := by rw [hw1]; simp
    have x0_0 := (by rw [hw1]; exact cell_new _ _ _ rfl rfl : wb1.cell? ⟨w.heap.size, 0, none⟩ = some (.slice a rows.length c))
    have x0_1 := (by rw [hw1]; exact cell_new _ _ _ rfl rfl : wb1.cell? ⟨w.heap.size, 1, none⟩ = some (.slice a' zs.length c'))
    have HB0 := Lib.hid (show Below w.heap.size w wb1 by rw [hw1]; exact (Below.refl w.heap.size w).alloc (Nat.le_refl _) _)
    have s1 : w.heap.size + 1 ≤ wb1.heap.size := by omega
    have HZ1 := Lib.hid z1
    clear z1
    go_wp2_with fail
    rw [← hw1]
    clear hw1
    refine (impl_point x xs q wb1 (Hhx.out.below HB0.out) hm true HP).mono ?_
    rintro e' w' ⟨rfl, rfl⟩
    go_wp2_with fail
    go_ret
    exact ⟨rfl, HB0.out⟩
  · have e9 : ((xs.length : Int) == ((rows.getD 0 []).length : Int)) = ok := by
      rw [← h.out]; unfold fitsB; rw [hp, show decide (rows.length = 0) = false by simpa using h0, Bool.true_and, Bool.false_or]
      exact len_beq _ _
    have g : ((rows.length : Int) == 0) = false := len_beq0 _ h0
    have HE := Lib.hid e9
    clear h hp e9
    go_enter Try.func99, Try.ntmps99
    obtain ⟨wb1, hw1⟩ : ∃ wb1 : World, wb1 = w.alloc (.cells #[.slice a rows.length c, .slice a' zs.length c'] 29) := ⟨_, rfl⟩
    have z1 : wb1.heap.size = w.heap.size + 1 := by rw [hw1]; simp
    have x0_0 := (by rw [hw1]; exact cell_new _ _ _ rfl rfl : wb1.cell? ⟨w.heap.size, 0, none⟩ = some (.slice a rows.length c))
    have x0_1 := (by rw [hw1]; exact cell_new _ _ _ rfl rfl : wb1.cell? ⟨w.heap.size, 1, none⟩ = some (.slice a' zs.length c'))
    have HB0 := Lib.hid (show Below w.heap.size w wb1 by rw [hw1]; exact (Below.refl w.heap.size w).alloc (Nat.le_refl _) _)
    have s1 : w.heap.size + 1 ≤ wb1.heap.size := by omega
    have HZ1 := Lib.hid z1
    clear z1
    go_wp2_with fail
    rw [← hw1]
    clear hw1
    obtain ⟨bl, off, rp, rq, hab, hbl, hc, hpq, hrow⟩ := (Hhr.out.below HB0.out).at (k := 0) (by omega)
    subst hab
    have hw0 := hw (rows.getD 0 []) (getD_mem rows [] 0 (by omega))
    have i1 : (0 : Int) < (rows.length : Int) := by omega
    have HE2 := Lib.hid (show RetB ok w (.returned (.bool ((xs.length : Int) == ((rows.getD 0 []).length : Int)))) wb1 from ⟨by rw [HE.out], HB0.out⟩)
    rw [show off + 0 = off by omega] at hc
    clear hrow HE hpq
    generalize rows.getD 0 [] = r0 at *
    refine (impl_point x xs q wb1 (Hhx.out.below HB0.out) hm true HP).mono ?_
    rintro e' w' ⟨rfl, rfl⟩
    go_wp2_with fail
    go_ret
    exact HE2.out
end Go.Proofs.Ytkbcofgigfnfaaa.nlabi
