/- The walks of what the model's nets give. -/
import Derived.Test.YtoephhhofkmgjaaGiveP
import Derived.Test.YtoephhhofkmgjaaNetB
import Derived.Test.YtoephhhofkmgjaaDots
import Derived.Test.YtoephhhofkmgjaaOwn1
import Derived.Deep.RegionHeld3
namespace Go.Proofs.Ytoephhhofkmgjaa.gives
open Go.RowKit own pp nums planes netp netb givep dots range own1
set_option linter.unusedVariables false
set_option linter.unusedSimpArgs false

set_option maxRecDepth 100000 in
set_option maxHeartbeats 1600000 in
theorem spec_give (a : Option Addr) (l : List (List Int × Int)) (c : Nat) (a' : Option Addr) (xs : List Int) (c' : Nat) (w : World) (hr : ReadsJ w a l) (hx : ints.Reads .i64 w a' xs) (h4 : l.length ≤ 4) (hxl : xs.length ≤ 1048576) (hS : Suits l xs) (hbx : numsB 1 xs = true) :
    Calls Try.prog 107 #[.slice a l.length c, .slice a' xs.length c'] w (intfns.Made (give l xs) w) := by
  obtain ⟨i0, hi, hz0, hz1, hz2⟩ := info_parts mk.infoInt
  have Hhr := Lib.hid hr
  have Hhx := Lib.hid hx
  have HhS := Lib.hid hS
  clear hr hx hS
  go_enter Try.func107, Try.ntmps107
  have hown0 := (own_empty w).1
  have hb0 := below_alloc w (.cells #[] 3)
  go_wp2_with fail
  go_loopw [5, 6] (fun v i wr => ∃ k : Nat, k ≤ l.length ∧ i = .int .i64 k ∧ wr.ownsRow w.heap.size 3 1 v k ((mk.mk (gv l xs) k).map (Value.int .i64)) ∧ Below w.heap.size w wr) (fun _ i _ => l.length - (intOf i).toNat)
  case atStart => exact ⟨0, by omega, rfl, by simpa [mk.mk] using hown0, hb0⟩
  case round =>
    obtain ⟨k, hk, rfl, hown, hbel⟩ := hrel
    clear hown0 hb0
    have hsz := hbel.size
    have HO := Lib.hid hown
    have HBl := Lib.hid hbel
    clear hown
    by_cases hlt : k < l.length
    · obtain ⟨b, off, p, q, rfl, hb, hc0, hc1, _, hrow⟩ := (Hhr.out.below hbel).at hlt
      have HRW := Lib.hid hrow
      have HSM := Lib.hid (suit_small HhS.out hbx k hlt)
      have hsu := HhS.out k hlt
      have hwl := Nat.le_of_eq hsu.2
      have i1 : (0 : Int) ≤ (k : Int) := by omega
      have i2 : (k : Int) < (l.length : Int) := by omega
      clear hrow hbel hsu
      by_cases hs9 : side (l.getD k ([], 0)).1 (l.getD k ([], 0)).2 xs = 1
      · have hgv : gv l xs k = 1 := by unfold gv bitv; rw [if_pos hs9]
        have hsd : (side (l.getD k ([], 0)).1 (l.getD k ([], 0)).2 xs == 1) = true := by simpa using hs9
        clear hs9
        have HSC := Lib.hid (show (mk.mk (gv l xs) (k + 1)).map (Value.int .i64) = (mk.mk (gv l xs) k).map (Value.int .i64) ++ [.int .i64 1] from by rw [mk.mk_succ, List.map_append, show gv l xs k = 1 from hgv]; rfl)
        have hgs : (side (l.getD k ([], 0)).1 (l.getD k ([], 0)).2 xs == 1) = true := hsd
        clear hgv hsd
        have hel : (mk.mk (gv l xs) k).length = k := mk.mk_length _ _
        have HSI := Lib.hid (fun (wa : World) (hB : Below wr.heap.size wr wa) => spec_side p (l.getD k ([], 0)).1 q (l.getD k ([], 0)).2 a' xs c' wa (HRW.out.below hB) ((Hhx.out.below HBl.out).below (hB.mono (Nat.le_refl _))) (by omega) hwl hxl HSM.out)
        generalize mk.mk (gv l xs) k = es at *
        generalize side (l.getD k ([], 0)).1 (l.getD k ([], 0)).2 xs = sd at *
        generalize (l.getD k ([], 0)).1 = ws at *
        generalize (l.getD k ([], 0)).2 = z at *
        go_wp2_with fail
        refine (HSI.out _ (Below.refl _ _)).mono ?_
        rintro e wq ⟨rfl, hbq⟩
        have hzq := hbq.size
        have HBq := Lib.hid (HBl.out.trans (hbq.mono hsz))
        have HOq := Lib.hid (ownsRow_block (w' := wq) HO.out (fun g hg => hbq.block g (HO.out.lt g hg).2))
        have HV := Lib.hid HOq.out.lt
        clear hbq
        go_wp2_with (at_builtin; refine wpList_append_own _ rfl _ _ 33 rfl w.heap.size 3 i0 (.int .i64 0) 1 8 Try.underlying33 hi hz0 hz1 hz2 rfl (by decide) _ _ _ rfl (HOq.out.alloc _) ⟨wq.heap.size, 0, none⟩ 1 1 [.int .i64 1] rfl rfl (cell_one_new _ _ _) (by simp [Value.oneCell']) (by unfold maxLen; omega) (by omega) (by simp; omega) ?_; intro v' w2 hown' hgrow _)
        have HO2 := Lib.hid hown'
        have HB2 := Lib.hid ((HBq.out.alloc (Nat.le_trans hsz hzq) _).grown hgrow (by simp; omega) (fun g e => (HV.out g e).1))
        clear hown' hgrow
        go_wp2_with fail
        go_roundw
        case rel => exact ⟨k + 1, by omega, by go_num, by rw [HSC.out]; exact HO2.out, HB2.out⟩
        case measure => simp [intOf]; omega
      · have hgv : gv l xs k = 0 := by unfold gv bitv; rw [if_neg hs9]
        have hsd : (side (l.getD k ([], 0)).1 (l.getD k ([], 0)).2 xs == 1) = false := by simpa using hs9
        clear hs9
        have HSC := Lib.hid (show (mk.mk (gv l xs) (k + 1)).map (Value.int .i64) = (mk.mk (gv l xs) k).map (Value.int .i64) ++ [.int .i64 0] from by rw [mk.mk_succ, List.map_append, show gv l xs k = 0 from hgv]; rfl)
        have hgs : (side (l.getD k ([], 0)).1 (l.getD k ([], 0)).2 xs == 1) = false := hsd
        clear hgv hsd
        have hel : (mk.mk (gv l xs) k).length = k := mk.mk_length _ _
        have HSI := Lib.hid (fun (wa : World) (hB : Below wr.heap.size wr wa) => spec_side p (l.getD k ([], 0)).1 q (l.getD k ([], 0)).2 a' xs c' wa (HRW.out.below hB) ((Hhx.out.below HBl.out).below (hB.mono (Nat.le_refl _))) (by omega) hwl hxl HSM.out)
        generalize mk.mk (gv l xs) k = es at *
        generalize side (l.getD k ([], 0)).1 (l.getD k ([], 0)).2 xs = sd at *
        generalize (l.getD k ([], 0)).1 = ws at *
        generalize (l.getD k ([], 0)).2 = z at *
        go_wp2_with fail
        refine (HSI.out _ (Below.refl _ _)).mono ?_
        rintro e wq ⟨rfl, hbq⟩
        have hzq := hbq.size
        have HBq := Lib.hid (HBl.out.trans (hbq.mono hsz))
        have HOq := Lib.hid (ownsRow_block (w' := wq) HO.out (fun g hg => hbq.block g (HO.out.lt g hg).2))
        have HV := Lib.hid HOq.out.lt
        clear hbq
        go_wp2_with (at_builtin; refine wpList_append_own _ rfl _ _ 33 rfl w.heap.size 3 i0 (.int .i64 0) 1 8 Try.underlying33 hi hz0 hz1 hz2 rfl (by decide) _ _ _ rfl (HOq.out.alloc _) ⟨wq.heap.size, 0, none⟩ 1 1 [.int .i64 0] rfl rfl (cell_one_new _ _ _) (by simp [Value.oneCell']) (by unfold maxLen; omega) (by omega) (by simp; omega) ?_; intro v' w2 hown' hgrow _)
        have HO2 := Lib.hid hown'
        have HB2 := Lib.hid ((HBq.out.alloc (Nat.le_trans hsz hzq) _).grown hgrow (by simp; omega) (fun g e => (HV.out g e).1))
        clear hown' hgrow
        go_wp2_with fail
        go_roundw
        case rel => exact ⟨k + 1, by omega, by go_num, by rw [HSC.out]; exact HO2.out, HB2.out⟩
        case measure => simp [intOf]; omega
    · obtain rfl : k = l.length := by omega
      have HF := Lib.hid (show intfns.Made (give l xs) w (.returned u5) wr from ⟨_, rfl, OwnI.of (by rw [give_length]; exact HO.out), HBl.out⟩)
      clear HO hbel
      go_wp2_with fail
      go_ret
      exact HF.out
set_option maxRecDepth 100000 in
set_option maxHeartbeats 1600000 in
theorem spec_run (a : Option Addr) (ls : List (List (List Int × Int))) (c : Nat) (n : Int) (a' : Option Addr) (xs : List Int) (c' : Nat) (w : World) (hr : ReadsL w a ls) (hx : ints.Reads .i64 w a' xs) (hn : ls.length ≤ 1048576) (h : netB n ls = true) (hx9 : (xs.length : Int) = n) (hbx : numsB 1 xs = true) :
    Calls Try.prog 67 #[.agg #[.int .i64 n, .slice a ls.length c], .slice a' xs.length c'] w (intfns.Made (runTo ls xs ls.length) w) := by
  have Hhr := Lib.hid hr
  have Hhx := Lib.hid hx
  clear hr hx
  have HH := Lib.hid h
  have hl6 := net_len h
  have hg0 := net_giv h 0 (by omega)
  rw [giv_zero] at hg0
  clear h
  go_enter Try.func67, Try.ntmps67
  obtain ⟨wb1, hw1⟩ : ∃ wb1 : World, wb1 = w.alloc (.cells #[.int .i64 n, .slice a ls.length c] 29) := ⟨_, rfl⟩
  have z1 : wb1.heap.size = w.heap.size + 1 := by rw [hw1]; simp
  have x0_0 := (by rw [hw1]; exact cell_new _ _ _ rfl rfl : wb1.cell? ⟨w.heap.size, 0, none⟩ = some (.int .i64 n))
  have x0_1 := (by rw [hw1]; exact cell_new _ _ _ rfl rfl : wb1.cell? ⟨w.heap.size, 1, none⟩ = some (.slice a ls.length c))
  have HB0 := Lib.hid (show Below w.heap.size w wb1 by rw [hw1]; exact (Below.refl w.heap.size w).alloc (Nat.le_refl _) _)
  have s1 : w.heap.size + 1 ≤ wb1.heap.size := by omega
  have HZ1 := Lib.hid z1
  clear z1
  go_wp2_with fail
  rw [← hw1]
  clear hw1
  refine (spec_own a' xs c' wb1 (Hhx.out.below HB0.out) (by omega) (by omega)).mono ?_
  rintro e w2 ⟨v, rfl, ho, hb⟩
  replace x0_0 := cell_below hb x0_0 (by omega)
  replace x0_1 := cell_below hb x0_1 (by omega)
  have hzb := hb.size
  have HB2 := Lib.hid (HB0.out.trans (hb.mono (by omega)))
  have HO2 := Lib.hid (ho.mono (lo' := w.heap.size) (by omega) (Nat.le_refl _))
  clear hb ho
  go_wp2_with fail
  go_loopw [5, 6] (fun v i wr => ∃ k : Nat, k ≤ ls.length ∧ i = .int .i64 k ∧ OwnI w.heap.size wr.heap.size wr v (runTo ls xs k) ∧ Below w2.heap.size w2 wr) (fun _ i _ => ls.length - (intOf i).toNat)
  case atStart => exact ⟨0, by omega, rfl, HO2.out, Below.refl _ _⟩
  case round =>
    obtain ⟨k, hk, rfl, hown, hbel⟩ := hrel
    have hsz := hbel.size
    replace x0_0 := cell_below hbel x0_0 (by omega)
    replace x0_1 := cell_below hbel x0_1 (by omega)
    by_cases hlt : k < ls.length
    · obtain ⟨p9, q9, rfl, hrd, _, _⟩ := hown.slice
      obtain ⟨b, off, p, q, rfl, hb, hc, _, hrow⟩ := ((Hhr.out.below HB2.out).below hbel).at hlt
      have HGI := Lib.hid (spec_give p (ls.getD k []) q p9 (runTo ls xs k) q9 wr hrow hrd (net_lay HH.out k hlt).2 (by rw [run_length hx9]; have := net_giv HH.out k hk; omega) (run_suits HH.out hx9 k hlt) (run_bits hbx k))
      have HRS := Lib.hid (run_succ ls xs k)
      have HBl := Lib.hid hbel
      have i1 : (0 : Int) ≤ (k : Int) := by omega
      have i2 : (k : Int) < (ls.length : Int) := by omega
      clear hbel hrow hrd hown
      generalize runTo ls xs k = rs at *
      generalize ls.getD k [] = l at *
      go_wp2_with fail
      refine HGI.out.mono ?_
      rintro e w3 ⟨v3, rfl, ho3, hb3⟩
      have HB3 := Lib.hid (HBl.out.trans (hb3.mono hsz))
      have HO3 := Lib.hid (ho3.mono (lo' := w.heap.size) (by omega) (Nat.le_refl _))
      clear hb3 ho3
      go_wp2_with fail
      go_roundw
      case rel => exact ⟨k + 1, by omega, by go_num, by rw [HRS.out]; exact HO3.out, HB3.out⟩
      case measure => simp [intOf]; omega
    · obtain rfl : k = ls.length := by omega
      have HF := Lib.hid (show intfns.Made (runTo ls xs ls.length) w (.returned u5) wr from ⟨_, rfl, hown, HB2.out.trans (hbel.mono HB2.out.size)⟩)
      clear hown hbel
      go_wp2_with fail
      go_ret
      exact HF.out
set_option maxRecDepth 100000 in
set_option maxHeartbeats 1600000 in
theorem spec_ev_no (a : Option Addr) (ls : List (List (List Int × Int))) (c : Nat) (n : Int) (a' : Option Addr) (xs : List Int) (c' : Nat) (w : World) (hr : ReadsL w a ls) (hn : ls.length ≤ 1048576) (hm : ∀ x ∈ ls, x.length ≤ 1048576 ∧ ∀ y ∈ x, y.1.length ≤ 1048576) (hx : ints.Reads .i64 w a' xs) (hxl : xs.length ≤ 1048576) (h : evB n ls xs = false) :
    Calls Try.prog 20 #[.agg #[.int .i64 n, .slice a ls.length c], .slice a' xs.length c'] w (RetIB [] false w) := by
  have Hhr := Lib.hid hr
  have Hhm := Lib.hid hm
  have Hhx := Lib.hid hx
  clear hr hm hx
  cases hk : netB n ls
  · have HK := Lib.hid hk
    clear hk h
    go_enter Try.func20, Try.ntmps20
    obtain ⟨wb1, hw1⟩ : ∃ wb1 : World, wb1 = w.alloc (.cells #[.int .i64 n, .slice a ls.length c] 29) := ⟨_, rfl⟩
    have z1 : wb1.heap.size = w.heap.size + 1 := by rw [hw1]; simp
    have x0_0 := (by rw [hw1]; exact cell_new _ _ _ rfl rfl : wb1.cell? ⟨w.heap.size, 0, none⟩ = some (.int .i64 n))
    have x0_1 := (by rw [hw1]; exact cell_new _ _ _ rfl rfl : wb1.cell? ⟨w.heap.size, 1, none⟩ = some (.slice a ls.length c))
    have HB0 := Lib.hid (show Below w.heap.size w wb1 by rw [hw1]; exact (Below.refl w.heap.size w).alloc (Nat.le_refl _) _)
    have s1 : w.heap.size + 1 ≤ wb1.heap.size := by omega
    have HZ1 := Lib.hid z1
    clear z1
    go_wp2_with fail
    rw [← hw1]
    clear hw1
    refine (spec_good a ls c n wb1 (Hhr.out.below HB0.out) hn Hhm.out false HK).mono ?_
    rintro e w2 ⟨rfl, hb⟩
    replace x0_0 := cell_below hb x0_0 (by omega)
    replace x0_1 := cell_below hb x0_1 (by omega)
    have s2 : w.heap.size + 1 ≤ w2.heap.size := by have := hb.size; omega
    have HB2 := Lib.hid (HB0.out.trans (hb.mono (by omega)))
    clear hb
    go_wp2_with fail
    go_ret2
    exact ret_empty HB2.out
  · have HK := Lib.hid hk
    have HRO := Lib.hid (show rowsB' n xs = false by rw [← h]; unfold evB; rw [hk]; rfl)
    clear hk h
    go_enter Try.func20, Try.ntmps20
    obtain ⟨wb1, hw1⟩ : ∃ wb1 : World, wb1 = w.alloc (.cells #[.int .i64 n, .slice a ls.length c] 29) := ⟨_, rfl⟩
    have z1 : wb1.heap.size = w.heap.size + 1 := by rw [hw1]; simp
    have x0_0 := (by rw [hw1]; exact cell_new _ _ _ rfl rfl : wb1.cell? ⟨w.heap.size, 0, none⟩ = some (.int .i64 n))
    have x0_1 := (by rw [hw1]; exact cell_new _ _ _ rfl rfl : wb1.cell? ⟨w.heap.size, 1, none⟩ = some (.slice a ls.length c))
    have HB0 := Lib.hid (show Below w.heap.size w wb1 by rw [hw1]; exact (Below.refl w.heap.size w).alloc (Nat.le_refl _) _)
    have s1 : w.heap.size + 1 ≤ wb1.heap.size := by omega
    have HZ1 := Lib.hid z1
    clear z1
    go_wp2_with fail
    rw [← hw1]
    clear hw1
    refine (spec_good a ls c n wb1 (Hhr.out.below HB0.out) hn Hhm.out true HK).mono ?_
    rintro e w2 ⟨rfl, hb⟩
    replace x0_0 := cell_below hb x0_0 (by omega)
    replace x0_1 := cell_below hb x0_1 (by omega)
    have s2 : w.heap.size + 1 ≤ w2.heap.size := by have := hb.size; omega
    have HB2 := Lib.hid (HB0.out.trans (hb.mono (by omega)))
    clear hb
    go_wp2_with fail
    refine (spec_row n a' xs c' w2 (Hhx.out.below HB2.out) hxl false HRO).mono ?_
    rintro e w' ⟨rfl, rfl⟩
    go_wp2_with fail
    go_ret2
    exact ret_empty HB2.out
set_option maxRecDepth 100000 in
set_option maxHeartbeats 1600000 in
theorem spec_ev_yes (a : Option Addr) (ls : List (List (List Int × Int))) (c : Nat) (n : Int) (a' : Option Addr) (xs : List Int) (c' : Nat) (w : World) (hr : ReadsL w a ls) (hn : ls.length ≤ 1048576) (hm : ∀ x ∈ ls, x.length ≤ 1048576 ∧ ∀ y ∈ x, y.1.length ≤ 1048576) (hx : ints.Reads .i64 w a' xs) (hxl : xs.length ≤ 1048576) (h : evB n ls xs = true) :
    Calls Try.prog 20 #[.agg #[.int .i64 n, .slice a ls.length c], .slice a' xs.length c'] w (RetIB (runTo ls xs ls.length) true w) := by
  have Hhr := Lib.hid hr
  have Hhm := Lib.hid hm
  have Hhx := Lib.hid hx
  clear hr hm hx
  have h2 := (ev_iff _ _ _).1 h
  have HK := Lib.hid h2.1
  have HRO := Lib.hid h2.2
  obtain ⟨hx9, hbx⟩ := row_bits h2.2
  clear h h2
  go_enter Try.func20, Try.ntmps20
  obtain ⟨wb1, hw1⟩ : ∃ wb1 : World, wb1 = w.alloc (.cells #[.int .i64 n, .slice a ls.length c] 29) := ⟨_, rfl⟩
  have z1 : wb1.heap.size = w.heap.size + 1 := by rw [hw1]; simp
  have x0_0 := (by rw [hw1]; exact cell_new _ _ _ rfl rfl : wb1.cell? ⟨w.heap.size, 0, none⟩ = some (.int .i64 n))
  have x0_1 := (by rw [hw1]; exact cell_new _ _ _ rfl rfl : wb1.cell? ⟨w.heap.size, 1, none⟩ = some (.slice a ls.length c))
  have HB0 := Lib.hid (show Below w.heap.size w wb1 by rw [hw1]; exact (Below.refl w.heap.size w).alloc (Nat.le_refl _) _)
  have s1 : w.heap.size + 1 ≤ wb1.heap.size := by omega
  have HZ1 := Lib.hid z1
  clear z1
  go_wp2_with fail
  rw [← hw1]
  clear hw1
  refine (spec_good a ls c n wb1 (Hhr.out.below HB0.out) hn Hhm.out true HK).mono ?_
  rintro e w2 ⟨rfl, hb⟩
  replace x0_0 := cell_below hb x0_0 (by omega)
  replace x0_1 := cell_below hb x0_1 (by omega)
  have s2 : w.heap.size + 1 ≤ w2.heap.size := by have := hb.size; omega
  have HB2 := Lib.hid (HB0.out.trans (hb.mono (by omega)))
  clear hb
  go_wp2_with fail
  refine (spec_row n a' xs c' w2 (Hhx.out.below HB2.out) hxl true HRO).mono ?_
  rintro e w' ⟨rfl, rfl⟩
  go_wp2_with fail
  refine (spec_run a ls c n a' xs c' w2 (Hhr.out.below HB2.out) (Hhx.out.below HB2.out) hn HK.out hx9 hbx).mono ?_
  rintro e w3 ⟨v3, rfl, ho3, hb3⟩
  have HF := Lib.hid (show RetIB (runTo ls xs ls.length) true w (.returned (.tuple #[v3, .bool true])) w3 from ⟨v3, rfl, ho3.mono (by omega) (Nat.le_refl _), HB2.out.trans (hb3.mono (by omega))⟩)
  clear ho3 hb3
  go_wp2_with fail
  go_ret2
  exact HF.out
end Go.Proofs.Ytoephhhofkmgjaa.gives
