/- The model's label of the neighbors among some places. -/
import Derived.Test.YtkbcofgigfnfaaaNearS
import Derived.Test.YtkbcofgigfnfaaaNlabP
import Derived.BigQuiet
namespace Go.Proofs.Ytkbcofgigfnfaaa.nlabs
open Go.RowKit own pp nums nearp squares dots mk nearq nears nlabp
set_option linter.unusedVariables false
set_option linter.unusedSimpArgs false

set_option maxRecDepth 100000 in
set_option maxHeartbeats 1600000 in
theorem spec_nlab (a : Option Addr) (rows : List (List Int)) (c : Nat) (a' : Option Addr) (zs : List Int) (c' : Nat) (e : Option Addr) (ps : List Int) (d : Nat) (x : Option Addr) (xs : List Int) (q : Nat) (k : Nat) (w : World) (hr : grid.Reads w a rows) (hz : ints.Reads .i64 w a' zs) (hp : ints.Reads .i64 w e ps) (hx : ints.Reads .i64 w x xs) (hN : Nbr rows ps xs) (hL : Lab zs) (hlz : zs.length = rows.length) (hkk : k ≤ ps.length) :
    Calls Try.prog 68 #[.agg #[.slice a rows.length c, .slice a' zs.length c'], .slice e ps.length d, .slice x xs.length q, .int .i64 k] w (RetN (nlab rows zs ps xs k) w) := by
  have HNB := Lib.hid hN
  have HL := Lib.hid hL
  have HLZ := Lib.hid hlz
  clear hlz
  have Hhr := Lib.hid hr
  have Hhz := Lib.hid hz
  have Hhp := Lib.hid hp
  have Hhx := Lib.hid hx
  have HhN := Lib.hid hN
  have HhL := Lib.hid hL
  clear hr hz hp hx hN hL
  go_enter Try.func68, Try.ntmps68
  obtain ⟨wb1, hw1⟩ : ∃ wb1 : World, wb1 = w.alloc (.cells #[.slice a rows.length c, .slice a' zs.length c'] 29) := ⟨_, rfl⟩
  have z1 : wb1.heap.size = w.heap.size + 1 := by rw [hw1]; simp
  have x0_0 := (by rw [hw1]; exact cell_new _ _ _ rfl rfl : wb1.cell? ⟨w.heap.size, 0, none⟩ = some (.slice a rows.length c))
  have x0_1 := (by rw [hw1]; exact cell_new _ _ _ rfl rfl : wb1.cell? ⟨w.heap.size, 1, none⟩ = some (.slice a' zs.length c'))
  have HB0 := Lib.hid (show Below w.heap.size w wb1 by rw [hw1]; exact (Below.refl w.heap.size w).alloc (Nat.le_refl _) _)
  have s1 : w.heap.size + 1 ≤ wb1.heap.size := by omega
  have HZ1 := Lib.hid z1
  clear z1
  go_wp2_with fail
  rw [← hw1]
  clear hw1
  have hnk := near_at HNB.out (dist rows xs)
  have HLN := Lib.hid (show (near (dist rows xs) ps).length = ps.length from nearTo_length _ _ _)
  have HN1 := Lib.hid (spec_near a rows c a' zs c' e ps d x xs q wb1 (Hhr.out.below HB0.out) (Hhp.out.below HB0.out) (Hhx.out.below HB0.out) HNB.out)
  have HE := Lib.hid (show nlab rows zs ps xs k = if 0 ≤ lsum zs (near (dist rows xs) ps) k then 1 else -1 from rfl)
  have h16 : k ≤ 16 := by have := HNB.out.2.1; omega
  have HAT := Lib.hid hnk
  clear hnk
  generalize nlab rows zs ps xs k = res at *
  generalize near (dist rows xs) ps = L at *
  refine HN1.out.mono ?_
  rintro e' w2 ⟨v2, rfl, ho, hb⟩
  obtain ⟨a2, c2, rfl, hrL, _, _⟩ := ho.slice
  have hs2 := hb.size
  replace x0_0 := cell_below hb x0_0 (by omega)
  replace x0_1 := cell_below hb x0_1 (by omega)
  have HB2 := Lib.hid (HB0.out.trans (hb.mono (by omega)))
  have HRL := Lib.hid hrL
  have HZ2 := Lib.hid (Hhz.out.below HB2.out)
  clear hb ho hrL
  go_wp2_with fail
  go_loopw [9, 11] (fun s i wr => ∃ k1 : Nat, k1 ≤ k ∧ i = .int .i64 k1 ∧ s = .int .i64 (lsum zs L k1) ∧ Below w2.heap.size w2 wr) (fun _ i _ => k - (intOf i).toNat)
  case atStart => exact ⟨0, Nat.zero_le _, rfl, rfl, Below.refl _ _⟩
  case round =>
    obtain ⟨k1, hk1, rfl, rfl, hbel⟩ := hrel
    have hsz := hbel.size
    replace x0_0 := cell_below hbel x0_0 (by omega)
    replace x0_1 := cell_below hbel x0_1 (by omega)
    by_cases hlt : k1 < k
    · obtain ⟨bl, off, hab, hbl, hc⟩ := HRL.out.at (k := k1) (by have := HLN.out; omega)
      subst hab
      replace hc := cell_below hbel hc (by omega)
      obtain ⟨hp0, hp1⟩ := HAT.out k1 (by omega)
      obtain ⟨m, hm⟩ : ∃ m : Nat, L.getD k1 0 = (m : Int) := ⟨(L.getD k1 0).toNat, by omega⟩
      have HS := Lib.hid (show lsum zs L (k1 + 1) = lsum zs L k1 + zs.getD m 0 from by
        show lsum zs L k1 + zs.getD (L.getD k1 0).toNat 0 = _
        rw [hm, Int.toNat_natCast])
      rw [hm] at hc hp1
      obtain ⟨lb, lo, hlb, hll, hlc⟩ := HZ2.out.at (k := m) (by have := HLZ.out; omega)
      subst hlb
      replace hlc := cell_below hbel hlc (by omega)
      have hsb := lsum_bd zs L HL.out k1
      have hzb := HL.out m
      have HBl := Lib.hid hbel
      have i0 : (k1 : Int) < (k : Int) := by omega
      have i1 : (0 : Int) ≤ (k1 : Int) := by omega
      have i2 : (k1 : Int) < (L.length : Int) := by have := HLN.out; omega
      have i3 : (0 : Int) ≤ (m : Int) := by omega
      have i4 : (m : Int) < (zs.length : Int) := by have := HLZ.out; omega
      clear hbel hm hp0 hp1
      generalize L.getD k1 0 = y at *
      generalize zs.getD m 0 = z at *
      generalize lsum zs L k1 = s at *
      have e1 : IntKind.i64.wrap (s + z) = s + z := IntWalk.i64_in _ (by omega)
      go_wp2_with fail
      go_quiet (fail)
      go_wp2_with fail
      go_roundw
      case rel => exact ⟨k1 + 1, by omega, by go_num, by rw [HS.out], ints.below_drewN HBl.out _⟩
      case measure => simp [intOf]; omega
    · obtain rfl : k1 = k := by omega
      have i2 : ¬ (k1 : Int) < (k1 : Int) := by omega
      have HBl := Lib.hid (HB2.out.trans (hbel.mono (by omega)))
      have HE2 := HE.out
      clear hbel
      generalize lsum zs L k1 = s at *
      by_cases hs : 0 ≤ s
      · have g : decide (0 ≤ s) = true := by simpa using hs
        rw [if_pos hs] at HE2
        have HE3 := Lib.hid (show RetN res w (.returned (.int .i64 (1))) wr from ⟨by rw [HE2], HBl.out⟩)
        clear hs HE2
        go_wp2_with fail
        go_ret
        exact HE3.out
      · have g : decide (0 ≤ s) = false := by simpa using hs
        rw [if_neg hs] at HE2
        have HE3 := Lib.hid (show RetN res w (.returned (.int .i64 (-1))) wr from ⟨by rw [HE2], HBl.out⟩)
        clear hs HE2
        go_wp2_with fail
        go_ret
        exact HE3.out
end Go.Proofs.Ytkbcofgigfnfaaa.nlabs
