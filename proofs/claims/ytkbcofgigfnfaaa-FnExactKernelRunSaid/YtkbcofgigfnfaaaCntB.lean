/- The tests of counts for a sample. -/
import Derived.Test.YtkbcofgigfnfaaaForce
import Derived.Test.YtkbcofgigfnfaaaSamplesT
namespace Go.Proofs.Ytkbcofgigfnfaaa.cntb
open Go.RowKit own pp nums squares dots kern range fitsp force samplesv samplest
set_option linter.unusedVariables false
set_option linter.unusedSimpArgs false

set_option maxRecDepth 100000 in
set_option maxHeartbeats 1600000 in
theorem spec_cnt (a : Option Addr) (rows : List (List Int)) (c : Nat) (a' : Option Addr) (zs : List Int) (c' : Nat) (e : Option Addr) (cs : List Int) (d : Nat) (n : Int) (w : World) (hr : grid.Reads w a rows) (hz : ints.Reads .i64 w a' zs) (hc : ints.Reads .i64 w e cs) (hn : rows.length ≤ 1048576) (hk : zs.length ≤ 1048576) (hm : ∀ r ∈ rows, r.length ≤ 1048576) (hcn : cs.length ≤ 1048576) (ok : Bool) (h : Hid (cntB rows zs cs n = ok)) :
    Calls Try.prog 96 #[.agg #[.slice a rows.length c, .slice a' zs.length c'], .slice e cs.length d, .int .i64 n] w (RetB ok w) := by
  have Hhr := Lib.hid hr
  have Hhz := Lib.hid hz
  have Hhc := Lib.hid hc
  have Hhm := Lib.hid hm
  clear hr hz hc hm
  go_enter Try.func96, Try.ntmps96
  obtain ⟨wb1, hw1⟩ : ∃ wb1 : World, wb1 = w.alloc (.cells #[.slice a rows.length c, .slice a' zs.length c'] 29) := ⟨_, rfl⟩
  have z1 : wb1.heap.size = w.heap.size + 1 := by rw [hw1]; simp
  have x0_0 := (by rw [hw1]; exact cell_new _ _ _ rfl rfl : wb1.cell? ⟨w.heap.size, 0, none⟩ = some (.slice a rows.length c))
  have x0_1 := (by rw [hw1]; exact cell_new _ _ _ rfl rfl : wb1.cell? ⟨w.heap.size, 1, none⟩ = some (.slice a' zs.length c'))
  have HB0 := Lib.hid (show Below w.heap.size w wb1 by rw [hw1]; exact (Below.refl w.heap.size w).alloc (Nat.le_refl _) _)
  have s1 : w.heap.size + 1 ≤ wb1.heap.size := by omega
  have HZ1 := Lib.hid z1
  clear z1
  go_wp2_with fail
  rw [← hw1]
  clear hw1
  go_loopw [7] (fun i wr => ∃ k : Nat, k ≤ cs.length ∧ i = .int .i64 k ∧ Hid (∀ j, j < k → inR 0 999 (cs.getD j 0) = true) ∧ wr = wb1) (fun i _ => cs.length - (intOf i).toNat)
  case atStart => exact ⟨0, Nat.zero_le _, rfl, fun j hj => by omega, rfl⟩
  case round =>
    obtain ⟨k, hk1, rfl, hj, hwr⟩ := hrel
    rw [hwr]
    clear hwr wr
    by_cases hlt : k < cs.length
    · obtain ⟨hb, off, rfl, hbl, hcc⟩ := (Hhc.out.below HB0.out).at hlt
      cases hx : inR 0 999 (cs.getD k 0)
      · have e : ok = false := by rw [← h.out]; unfold cntB numsR; rw [all_false _ 0 cs k hlt hx, Bool.and_false]; rfl
        have HX := Lib.hid hx
        clear h hx
        subst e
        unfold inR at HX
        generalize cs.getD k 0 = s at *
        go_wp2_with fail
        refine (in_any _ _ _ _ false HX).mono ?_
        rintro e' w' ⟨rfl, rfl⟩
        go_wp2_with fail
        go_ret
        exact ⟨rfl, HB0.out⟩
      · have HJ : Hid (∀ j, j < k + 1 → inR 0 999 (cs.getD j 0) = true) := fun j h => by
          by_cases e : j = k
          · rw [e]; exact hx
          · exact hj.out j (by omega)
        have HX := Lib.hid hx
        clear hx hj
        unfold inR at HX
        generalize cs.getD k 0 = s at *
        go_wp2_with fail
        refine (in_any _ _ _ _ true HX).mono ?_
        rintro e' w' ⟨rfl, rfl⟩
        go_wp2_with fail
        go_roundw
        case rel => exact ⟨k + 1, by omega, by go_num, HJ, trivial⟩
        case measure => simp [intOf]; omega
    · obtain rfl : k = cs.length := by omega
      have HNU := Lib.hid (show numsR 0 999 cs = true from all_true _ 0 cs (fun j hj' => hj.out j (by omega)))
      clear hj
      cases hs : sampleB rows zs
      · have e9 : ok = false := by rw [← h.out]; unfold cntB; rw [hs]; rfl
        have HS := Lib.hid hs
        clear h hs
        subst e9
        go_wp2_with fail
        refine (spec_sample a rows c a' zs c' wb1 (Hhr.out.below HB0.out) (Hhz.out.below HB0.out) hn hk Hhm.out false HS).mono ?_
        rintro e' w2 ⟨rfl, hb⟩
        replace x0_0 := cell_below hb x0_0 (by omega)
        have HB2 := Lib.hid (HB0.out.trans (hb.mono HB0.out.size))
        clear hb
        go_wp2_with fail
        go_ret
        exact ⟨rfl, HB2.out⟩
      have HS := Lib.hid hs
      by_cases hl : cs.length = rows.length
      · have g : ((cs.length : Int) == (rows.length : Int)) = true := by rw [hl]; simp
        have HD := Lib.hid (show degB n = ok by rw [← h.out]; unfold cntB; rw [hs, HNU.out, show decide (cs.length = rows.length) = true by simpa using hl]; rfl)
        clear h hs hl
        go_wp2_with fail
        refine (spec_sample a rows c a' zs c' wb1 (Hhr.out.below HB0.out) (Hhz.out.below HB0.out) hn hk Hhm.out true HS).mono ?_
        rintro e' w2 ⟨rfl, hb⟩
        replace x0_0 := cell_below hb x0_0 (by omega)
        have HB2 := Lib.hid (HB0.out.trans (hb.mono HB0.out.size))
        clear hb
        go_wp2_with fail
        refine (kern.spec_deg n w2 ok HD).mono ?_
        rintro e' w' ⟨rfl, rfl⟩
        go_wp2_with fail
        go_ret
        exact ⟨rfl, HB2.out⟩
      · have g : ((cs.length : Int) == (rows.length : Int)) = false := by rw [len_beq]; simpa using hl
        have e9 : ok = false := by rw [← h.out]; unfold cntB; rw [show decide (cs.length = rows.length) = false by simpa using hl, Bool.and_false]; rfl
        clear h hs hl
        subst e9
        go_wp2_with fail
        refine (spec_sample a rows c a' zs c' wb1 (Hhr.out.below HB0.out) (Hhz.out.below HB0.out) hn hk Hhm.out true HS).mono ?_
        rintro e' w2 ⟨rfl, hb⟩
        replace x0_0 := cell_below hb x0_0 (by omega)
        have HB2 := Lib.hid (HB0.out.trans (hb.mono HB0.out.size))
        clear hb
        go_wp2_with fail
        go_ret
        exact ⟨rfl, HB2.out⟩
set_option maxRecDepth 100000 in
set_option maxHeartbeats 1600000 in
theorem impl_cnt (a : Option Addr) (rows : List (List Int)) (c : Nat) (a' : Option Addr) (zs : List Int) (c' : Nat) (e : Option Addr) (cs : List Int) (d : Nat) (n : Int) (w : World) (hr : grid.Reads w a rows) (hz : ints.Reads .i64 w a' zs) (hc : ints.Reads .i64 w e cs) (hn : rows.length ≤ 1048576) (hk : zs.length ≤ 1048576) (hm : ∀ r ∈ rows, r.length ≤ 1048576) (hcn : cs.length ≤ 1048576) (ok : Bool) (h : Hid (cntB rows zs cs n = ok)) :
    Calls Try.prog 98 #[.agg #[.slice a rows.length c, .slice a' zs.length c'], .slice e cs.length d, .int .i64 n] w (RetB ok w) := by
  have Hhr := Lib.hid hr
  have Hhz := Lib.hid hz
  have Hhc := Lib.hid hc
  have Hhm := Lib.hid hm
  clear hr hz hc hm
  cases hu : numsR 0 999 cs
  · have HNU := Lib.hid hu
    have e9 : ok = false := by rw [← h.out]; unfold cntB; rw [hu, Bool.and_false]; rfl
    subst e9
    cases hs : sampleB rows zs
    · have HS := Lib.hid hs
      clear h hu hs
      go_enter Try.func98, Try.ntmps98
      obtain ⟨wb1, hw1⟩ : ∃ wb1 : World, wb1 = w.alloc (.cells #[.slice a rows.length c, .slice a' zs.length c'] 29) := ⟨_, rfl⟩
      have z1 : wb1.heap.size = w.heap.size + 1 := by rw [hw1]; simp
      have x0_0 := (by rw [hw1]; exact cell_new _ _ _ rfl rfl : wb1.cell? ⟨w.heap.size, 0, none⟩ = some (.slice a rows.length c))
      have x0_1 := (by rw [hw1]; exact cell_new _ _ _ rfl rfl : wb1.cell? ⟨w.heap.size, 1, none⟩ = some (.slice a' zs.length c'))
      have HB0 := Lib.hid (show Below w.heap.size w wb1 by rw [hw1]; exact (Below.refl w.heap.size w).alloc (Nat.le_refl _) _)
      have s1 : w.heap.size + 1 ≤ wb1.heap.size := by omega
      have HZ1 := Lib.hid z1
      clear z1
      go_wp2_with fail
      rw [← hw1]
      clear hw1
      refine (impl_sample a rows c a' zs c' wb1 (Hhr.out.below HB0.out) (Hhz.out.below HB0.out) hn hk Hhm.out false HS).mono ?_
      rintro e' w2 ⟨rfl, hb⟩
      replace x0_0 := cell_below hb x0_0 (by omega)
      have HB2 := Lib.hid (HB0.out.trans (hb.mono HB0.out.size))
      clear hb
      go_wp2_with fail
      go_ret
      exact ⟨rfl, HB2.out⟩
    have HS := Lib.hid hs
    by_cases hl : cs.length = rows.length
    · have g : ((cs.length : Int) == (rows.length : Int)) = true := by rw [hl]; simp
      clear h hu hs hl
      go_enter Try.func98, Try.ntmps98
      obtain ⟨wb1, hw1⟩ : ∃ wb1 : World, wb1 = w.alloc (.cells #[.slice a rows.length c, .slice a' zs.length c'] 29) := ⟨_, rfl⟩
      have z1 : wb1.heap.size = w.heap.size + 1 := by rw [hw1]; simp
      have x0_0 := (by rw [hw1]; exact cell_new _ _ _ rfl rfl : wb1.cell? ⟨w.heap.size, 0, none⟩ = some (.slice a rows.length c))
      have x0_1 := (by rw [hw1]; exact cell_new _ _ _ rfl rfl : wb1.cell? ⟨w.heap.size, 1, none⟩ = some (.slice a' zs.length c'))
      have HB0 := Lib.hid (show Below w.heap.size w wb1 by rw [hw1]; exact (Below.refl w.heap.size w).alloc (Nat.le_refl _) _)
      have s1 : w.heap.size + 1 ≤ wb1.heap.size := by omega
      have HZ1 := Lib.hid z1
      clear z1
      go_wp2_with fail
      rw [← hw1]
      clear hw1
      refine (impl_sample a rows c a' zs c' wb1 (Hhr.out.below HB0.out) (Hhz.out.below HB0.out) hn hk Hhm.out true HS).mono ?_
      rintro e' w2 ⟨rfl, hb⟩
      replace x0_0 := cell_below hb x0_0 (by omega)
      have HB2 := Lib.hid (HB0.out.trans (hb.mono HB0.out.size))
      clear hb
      go_wp2_with fail
      refine (impl_range e cs d 999 w2 (Hhc.out.below HB2.out) hcn false HNU).mono ?_
      rintro e' w3 ⟨rfl, hb⟩
      have HB3 := Lib.hid (HB2.out.trans (hb.mono HB2.out.size))
      clear hb HB2
      have HB2 := HB3
      go_wp2_with fail
      go_ret
      exact ⟨rfl, HB2.out⟩
    · have g : ((cs.length : Int) == (rows.length : Int)) = false := by rw [len_beq]; simpa using hl
      clear h hu hs hl
      go_enter Try.func98, Try.ntmps98
      obtain ⟨wb1, hw1⟩ : ∃ wb1 : World, wb1 = w.alloc (.cells #[.slice a rows.length c, .slice a' zs.length c'] 29) := ⟨_, rfl⟩
      have z1 : wb1.heap.size = w.heap.size + 1 := by rw [hw1]; simp
      have x0_0 := (by rw [hw1]; exact cell_new _ _ _ rfl rfl : wb1.cell? ⟨w.heap.size, 0, none⟩ = some (.slice a rows.length c))
      have x0_1 := (by rw [hw1]; exact cell_new _ _ _ rfl rfl : wb1.cell? ⟨w.heap.size, 1, none⟩ = some (.slice a' zs.length c'))
      have HB0 := Lib.hid (show Below w.heap.size w wb1 by rw [hw1]; exact (Below.refl w.heap.size w).alloc (Nat.le_refl _) _)
      have s1 : w.heap.size + 1 ≤ wb1.heap.size := by omega
      have HZ1 := Lib.hid z1
      clear z1
      go_wp2_with fail
      rw [← hw1]
      clear hw1
      refine (impl_sample a rows c a' zs c' wb1 (Hhr.out.below HB0.out) (Hhz.out.below HB0.out) hn hk Hhm.out true HS).mono ?_
      rintro e' w2 ⟨rfl, hb⟩
      replace x0_0 := cell_below hb x0_0 (by omega)
      have HB2 := Lib.hid (HB0.out.trans (hb.mono HB0.out.size))
      clear hb
      go_wp2_with fail
      go_ret
      exact ⟨rfl, HB2.out⟩
  have HNU := Lib.hid hu
  clear hu
  cases hs : sampleB rows zs
  · have e9 : ok = false := by rw [← h.out]; unfold cntB; rw [hs]; rfl
    have HS := Lib.hid hs
    clear h hs
    subst e9
    go_enter Try.func98, Try.ntmps98
    obtain ⟨wb1, hw1⟩ : ∃ wb1 : World, wb1 = w.alloc (.cells #[.slice a rows.length c, .slice a' zs.length c'] 29) := ⟨_, rfl⟩
    have z1 : wb1.heap.size = w.heap.size + 1 := by rw [hw1]; simp
    have x0_0 := (by rw [hw1]; exact cell_new _ _ _ rfl rfl : wb1.cell? ⟨w.heap.size, 0, none⟩ = some (.slice a rows.length c))
    have x0_1 := (by rw [hw1]; exact cell_new _ _ _ rfl rfl : wb1.cell? ⟨w.heap.size, 1, none⟩ = some (.slice a' zs.length c'))
    have HB0 := Lib.hid (show Below w.heap.size w wb1 by rw [hw1]; exact (Below.refl w.heap.size w).alloc (Nat.le_refl _) _)
    have s1 : w.heap.size + 1 ≤ wb1.heap.size := by omega
    have HZ1 := Lib.hid z1
    clear z1
    go_wp2_with fail
    rw [← hw1]
    clear hw1
    refine (impl_sample a rows c a' zs c' wb1 (Hhr.out.below HB0.out) (Hhz.out.below HB0.out) hn hk Hhm.out false HS).mono ?_
    rintro e' w2 ⟨rfl, hb⟩
    replace x0_0 := cell_below hb x0_0 (by omega)
    have HB2 := Lib.hid (HB0.out.trans (hb.mono HB0.out.size))
    clear hb
    go_wp2_with fail
    go_ret
    exact ⟨rfl, HB2.out⟩
  have HS := Lib.hid hs
  by_cases hl : cs.length = rows.length
  · have g : ((cs.length : Int) == (rows.length : Int)) = true := by rw [hl]; simp
    have HD := Lib.hid (show degB n = ok by rw [← h.out]; unfold cntB; rw [hs, HNU.out, show decide (cs.length = rows.length) = true by simpa using hl]; rfl)
    clear h hs hl
    go_enter Try.func98, Try.ntmps98
    obtain ⟨wb1, hw1⟩ : ∃ wb1 : World, wb1 = w.alloc (.cells #[.slice a rows.length c, .slice a' zs.length c'] 29) := ⟨_, rfl⟩
    have z1 : wb1.heap.size = w.heap.size + 1 := by rw [hw1]; simp
    have x0_0 := (by rw [hw1]; exact cell_new _ _ _ rfl rfl : wb1.cell? ⟨w.heap.size, 0, none⟩ = some (.slice a rows.length c))
    have x0_1 := (by rw [hw1]; exact cell_new _ _ _ rfl rfl : wb1.cell? ⟨w.heap.size, 1, none⟩ = some (.slice a' zs.length c'))
    have HB0 := Lib.hid (show Below w.heap.size w wb1 by rw [hw1]; exact (Below.refl w.heap.size w).alloc (Nat.le_refl _) _)
    have s1 : w.heap.size + 1 ≤ wb1.heap.size := by omega
    have HZ1 := Lib.hid z1
    clear z1
    go_wp2_with fail
    rw [← hw1]
    clear hw1
    refine (impl_sample a rows c a' zs c' wb1 (Hhr.out.below HB0.out) (Hhz.out.below HB0.out) hn hk Hhm.out true HS).mono ?_
    rintro e' w2 ⟨rfl, hb⟩
    replace x0_0 := cell_below hb x0_0 (by omega)
    have HB2 := Lib.hid (HB0.out.trans (hb.mono HB0.out.size))
    clear hb
    go_wp2_with fail
    refine (impl_range e cs d 999 w2 (Hhc.out.below HB2.out) hcn true HNU).mono ?_
    rintro e' w3 ⟨rfl, hb⟩
    have HB3 := Lib.hid (HB2.out.trans (hb.mono HB2.out.size))
    clear hb HB2
    have HB2 := HB3
    go_wp2_with fail
    refine (kern.impl_deg n w3 ok HD).mono ?_
    rintro e' w' ⟨rfl, rfl⟩
    go_wp2_with fail
    go_ret
    exact ⟨rfl, HB2.out⟩
  · have g : ((cs.length : Int) == (rows.length : Int)) = false := by rw [len_beq]; simpa using hl
    have e9 : ok = false := by rw [← h.out]; unfold cntB; rw [show decide (cs.length = rows.length) = false by simpa using hl, Bool.and_false]; rfl
    clear h hs hl
    subst e9
    go_enter Try.func98, Try.ntmps98
    obtain ⟨wb1, hw1⟩ : ∃ wb1 : World, wb1 = w.alloc (.cells #[.slice a rows.length c, .slice a' zs.length c'] 29) := ⟨_, rfl⟩
    have z1 : wb1.heap.size = w.heap.size + 1 := by rw [hw1]; simp
    have x0_0 := (by rw [hw1]; exact cell_new _ _ _ rfl rfl : wb1.cell? ⟨w.heap.size, 0, none⟩ = some (.slice a rows.length c))
    have x0_1 := (by rw [hw1]; exact cell_new _ _ _ rfl rfl : wb1.cell? ⟨w.heap.size, 1, none⟩ = some (.slice a' zs.length c'))
    have HB0 := Lib.hid (show Below w.heap.size w wb1 by rw [hw1]; exact (Below.refl w.heap.size w).alloc (Nat.le_refl _) _)
    have s1 : w.heap.size + 1 ≤ wb1.heap.size := by omega
    have HZ1 := Lib.hid z1
    clear z1
    go_wp2_with fail
    rw [← hw1]
    clear hw1
    refine (impl_sample a rows c a' zs c' wb1 (Hhr.out.below HB0.out) (Hhz.out.below HB0.out) hn hk Hhm.out true HS).mono ?_
    rintro e' w2 ⟨rfl, hb⟩
    replace x0_0 := cell_below hb x0_0 (by omega)
    have HB2 := Lib.hid (HB0.out.trans (hb.mono HB0.out.size))
    clear hb
    go_wp2_with fail
    go_ret
    exact ⟨rfl, HB2.out⟩
end Go.Proofs.Ytkbcofgigfnfaaa.cntb
