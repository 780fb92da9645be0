/- The walks of a table with one bit left out: the model's and the program's. -/
import Derived.Test.YtchlkcmgonbcjaaTab
import Derived.Test.YtchlkcmgonbcjaaFrom
import Derived.Test.YtchlkcmgonbcjaaBits
import Derived.BigQuiet
namespace Go.Proofs.Ytchlkcmgonbcjaa.restr
open Go.RowKit own pp nums range tab fromw bitw
set_option linter.unusedVariables false
set_option linter.unusedSimpArgs false

open mk (mk_length mk_succ mk_congr pow4)
/-- The places below k that have this digit at a bit, and what the table has there. -/
def at1 (b v k : Nat) : Bool := decide (k / 2 ^ b % 2 = v)
def rest (zs : List Int) (b v k : Nat) : List Int := ((List.range k).filter (at1 b v)).map fun j => zs.getD j 0
theorem rest_len (zs : List Int) (b v k : Nat) : (rest zs b v k).length ≤ k := by
  unfold rest
  rw [List.length_map]
  exact Nat.le_trans (List.length_filter_le _ _) (by simp)
theorem rest_hit {zs : List Int} {b v k : Nat} (h : at1 b v k = true) : rest zs b v (k + 1) = rest zs b v k ++ [zs.getD k 0] := by
  simp [rest, List.range_succ, List.filter_append, h]
theorem rest_miss {zs : List Int} {b v k : Nat} (h : at1 b v k = false) : rest zs b v (k + 1) = rest zs b v k := by
  simp [rest, List.range_succ, List.filter_append, h]
/-- The place with the bit put in. -/
def ins (b v k : Nat) : Nat := k / 2 ^ b * 2 ^ (b + 1) + v * 2 ^ b + k % 2 ^ b
theorem rest_all : ∀ n : Fin 4, ∀ b : Fin 4, ∀ v : Fin 2, b.val < n.val + 1 → (List.range (2 ^ (n.val + 1))).filter (at1 b.val v.val) = (List.range (2 ^ n.val)).map (ins b.val v.val) := by decide +kernel
theorem ins_lt : ∀ n : Fin 4, ∀ b : Fin 4, ∀ v : Fin 2, b.val < n.val + 1 → ∀ k : Fin 8, k.val < 2 ^ n.val → ins b.val v.val k.val < 2 ^ (n.val + 1) := by decide +kernel
theorem rest_mk (zs : List Int) {n b v : Nat} (hn : n < 4) (hb : b < n + 1) (hv : v < 2) : rest zs b v (2 ^ (n + 1)) = mk.mk (fun k => zs.getD (ins b v k) 0) (2 ^ n) := by
  unfold rest mk.mk
  rw [rest_all ⟨n, hn⟩ ⟨b, by omega⟩ ⟨v, hv⟩ hb, List.map_map]
  rfl
set_option maxRecDepth 100000 in
set_option maxHeartbeats 4000000 in
theorem spec_no (n : Int) (a : Option Addr) (zs : List Int) (c : Nat) (bit v : Int) (w : World) (hr : ints.Reads .i64 w a zs) (hk : tab.tabB n zs = false) :
    Calls Try.prog 35 #[.int .i64 n, .slice a zs.length c, .int .i64 bit, .int .i64 v] w (RetIB [] false w) := by
  have HT := Lib.hid (fun (wa : World) (hb : Below w.heap.size w wa) => tab.spec_tab n a zs c wa (hr.below hb) false (Lib.hid hk))
  clear hr hk
  go_enter Try.func35, Try.ntmps35
  go_wp2_with fail
  refine (HT.out _ (below_alloc w (.cells #[] 3))).mono ?_
  rintro e w' ⟨rfl, m, rfl⟩
  go_wp2_with fail
  go_ret2
  exact ⟨_, rfl, (own_empty _).mono (Nat.le_refl _) (by simp), ints.below_drewN (below_alloc w (.cells #[] 3)) _⟩
set_option maxRecDepth 100000 in
set_option maxHeartbeats 4000000 in
theorem spec_no2 (n : Int) (a : Option Addr) (zs : List Int) (c : Nat) (bit v : Int) (w : World) (hr : ints.Reads .i64 w a zs) (hk : tab.tabB n zs = true) (hx : (decide (0 ≤ bit) && decide (bit ≤ n - 1)) = false) :
    Calls Try.prog 35 #[.int .i64 n, .slice a zs.length c, .int .i64 bit, .int .i64 v] w (RetIB [] false w) := by
  have HT := Lib.hid (fun (wa : World) (hb : Below w.heap.size w wa) => tab.spec_tab n a zs c wa (hr.below hb) true (Lib.hid hk))
  have hfit := (tab_iff _ _).1 hk
  have hn0 := hfit.1.1
  have hn4 := hfit.1.2
  clear hfit
  have HX := Lib.hid (Lib.hid hx)
  clear hr hk hx
  go_enter Try.func35, Try.ntmps35
  go_wp2_with fail
  refine (HT.out _ (below_alloc w (.cells #[] 3))).mono ?_
  rintro e w' ⟨rfl, m, rfl⟩
  go_wp2_with fail
  refine (in_any _ _ _ _ false HX.out).mono ?_
  rintro e w' ⟨rfl, rfl⟩
  go_wp2_with fail
  go_ret2
  exact ⟨_, rfl, (own_empty _).mono (Nat.le_refl _) (by simp), ints.below_drewN (below_alloc w (.cells #[] 3)) _⟩
set_option maxRecDepth 100000 in
set_option maxHeartbeats 4000000 in
theorem spec_no3 (n : Int) (a : Option Addr) (zs : List Int) (c : Nat) (bit v : Int) (w : World) (hr : ints.Reads .i64 w a zs) (hk : tab.tabB n zs = true) (hx : (decide (0 ≤ bit) && decide (bit ≤ n - 1)) = true) (hy : (decide (0 ≤ v) && decide (v ≤ 1)) = false) :
    Calls Try.prog 35 #[.int .i64 n, .slice a zs.length c, .int .i64 bit, .int .i64 v] w (RetIB [] false w) := by
  have HT := Lib.hid (fun (wa : World) (hb : Below w.heap.size w wa) => tab.spec_tab n a zs c wa (hr.below hb) true (Lib.hid hk))
  have hfit := (tab_iff _ _).1 hk
  have hn0 := hfit.1.1
  have hn4 := hfit.1.2
  clear hfit
  have HX := Lib.hid (Lib.hid hx)
  have HY := Lib.hid (Lib.hid hy)
  clear hr hk hx hy
  go_enter Try.func35, Try.ntmps35
  go_wp2_with fail
  refine (HT.out _ (below_alloc w (.cells #[] 3))).mono ?_
  rintro e w' ⟨rfl, m, rfl⟩
  go_wp2_with fail
  refine (in_any _ _ _ _ true HX.out).mono ?_
  rintro e w' ⟨rfl, rfl⟩
  go_wp2_with fail
  refine (in_any _ _ _ _ false HY.out).mono ?_
  rintro e w' ⟨rfl, rfl⟩
  go_wp2_with fail
  go_ret2
  exact ⟨_, rfl, (own_empty _).mono (Nat.le_refl _) (by simp), ints.below_drewN (below_alloc w (.cells #[] 3)) _⟩
set_option maxRecDepth 100000 in
set_option maxHeartbeats 4000000 in
theorem spec_yes (n : Int) (a : Option Addr) (zs : List Int) (c : Nat) (bit v : Nat) (w : World) (hr : ints.Reads .i64 w a zs) (hk : tab.tabB n zs = true) (hx : (bit : Int) < n) (hy : v < 2) :
    Calls Try.prog 35 #[.int .i64 n, .slice a zs.length c, .int .i64 bit, .int .i64 v] w (RetIB (rest zs bit v zs.length) true w) := by
  obtain ⟨i0, hi, hz0, hz1, hz2⟩ := info_parts mk.infoInt
  have HT := Lib.hid (fun (wa : World) (hb : Below w.heap.size w wa) => tab.spec_tab n a zs c wa (hr.below hb) true (Lib.hid hk))
  have HX := Lib.hid (Lib.hid (show (decide ((0 : Int) ≤ (bit : Int)) && decide ((bit : Int) ≤ n - 1)) = true by rw [decide_eq_true (by omega), decide_eq_true (by omega)]; rfl))
  have HY := Lib.hid (Lib.hid (show (decide ((0 : Int) ≤ (v : Int)) && decide ((v : Int) ≤ 1)) = true by rw [decide_eq_true (by omega), decide_eq_true (by omega)]; rfl))
  obtain ⟨m0, rfl, h4, hpw, h16, hrg⟩ := tab_nat hk
  have HR := Lib.hid hr
  have hb4 : bit ≤ 3 := by omega
  clear hk hr hpw hrg
  go_enter Try.func35, Try.ntmps35
  go_wp2_with fail
  refine (HT.out _ (below_alloc w (.cells #[] 3))).mono ?_
  rintro e w' ⟨rfl, m, rfl⟩
  go_wp2_with fail
  refine (in_any _ _ _ _ true HX.out).mono ?_
  rintro e w' ⟨rfl, rfl⟩
  go_wp2_with fail
  refine (in_any _ _ _ _ true HY.out).mono ?_
  rintro e w' ⟨rfl, rfl⟩
  go_wp2_with fail
  have HO0 := Lib.hid (show ((w.alloc (.cells #[] 3)).drewN m).ownsRow w.heap.size 3 1 (.slice (some ⟨w.heap.size, 0, none⟩) 0 0) (rest zs bit v 0).length ((rest zs bit v 0).map (Value.int .i64)) from (own_empty w).1)
  have HB0 := Lib.hid (ints.below_drewN (below_alloc w (.cells #[] 3)) m)
  go_loopw [10, 11] (fun u i wr => ∃ (k : Nat), k ≤ zs.length ∧ i = .int .i64 k ∧ wr.ownsRow w.heap.size 3 1 u (rest zs bit v k).length ((rest zs bit v k).map (Value.int .i64)) ∧ Below w.heap.size w wr) (fun _ i _ => zs.length - (intOf i).toNat)
  case atStart => exact ⟨0, Nat.zero_le _, rfl, HO0.out, HB0.out⟩
  case round =>
    obtain ⟨k, hk, rfl, hown, hbel⟩ := hrel
    have HV := Lib.hid hown.lt
    have HBl := Lib.hid hbel
    have hsz := hbel.size
    clear HO0 HB0
    by_cases hlt : k < zs.length
    · have HO := Lib.hid hown
      have hbit := bit_at k bit (by omega)
      have hlen := rest_len zs bit v k
      obtain ⟨b, off, rfl, hb, hc⟩ := (HR.out.below hbel).at hlt
      have i1 : (0 : Int) ≤ (k : Int) := by omega
      have i2 : (k : Int) < (zs.length : Int) := by omega
      clear hown hbel
      cases hp : at1 bit v k
      · have HM := Lib.hid (rest_miss (zs := zs) hp)
        have g : (((k / 2 ^ bit % 2 : Nat) : Int) == (v : Int)) = false := by
          unfold at1 at hp
          rw [decide_eq_false_iff_not] at hp
          rw [beq_eq_false_iff_ne]
          omega
        clear hp
        generalize rest zs bit v k = ms at *
        generalize k / 2 ^ bit % 2 = y at *
        go_wp2_with fail
        go_roundw
        case rel => exact ⟨k + 1, by omega, by go_num, by rw [HM.out]; exact HO.out, HBl.out⟩
        case measure => simp [intOf]; omega
      · have HM := Lib.hid (rest_hit (zs := zs) hp)
        have g : (((k / 2 ^ bit % 2 : Nat) : Int) == (v : Int)) = true := by
          unfold at1 at hp
          rw [decide_eq_true_eq] at hp
          rw [beq_iff_eq]
          omega
        clear hp
        generalize rest zs bit v k = ms at *
        generalize k / 2 ^ bit % 2 = y at *
        generalize zs.getD k 0 = x at *
        go_wp2_with (at_builtin; refine wpList_append_own _ rfl _ _ 22 rfl w.heap.size 3 i0 (.int .i64 0) 1 8 Try.underlying22 hi hz0 hz1 hz2 rfl (by decide) _ _ _ rfl (HO.out.alloc _) ⟨wr.heap.size, 0, none⟩ 1 1 [.int .i64 x] rfl rfl (cell_one_new _ _ _) (by simp [Value.oneCell']) (by unfold maxLen; omega) (by omega) (by simp; omega) ?_; intro v' w2 hown' hgrow _)
        obtain ⟨g', cap', hv'⟩ := ownsRow_succ hown'
        subst hv'
        have HO2 := Lib.hid hown'
        have HB2 := Lib.hid ((HBl.out.alloc hsz _).grown hgrow (by simp; omega) (fun g e => (HV.out g e).1))
        clear hown' hgrow
        go_wp2_with fail
        go_roundw
        case rel => exact ⟨k + 1, by omega, by go_num, by rw [HM.out, List.map_append, List.length_append]; exact HO2.out, HB2.out⟩
        case measure => simp [intOf]; omega
    · obtain rfl : k = zs.length := by omega
      have HF1 := Lib.hid (show RetIB (rest zs bit v zs.length) true w (.returned (.tuple #[u10, .bool true])) wr from ⟨u10, rfl, OwnI.of hown, HBl.out⟩)
      clear hown hbel
      go_wp2_with fail
      go_ret2
      exact HF1.out
theorem ins_key_0 : ∀ (p : Fin 8) (q : Fin 2), Go.bits BinOp.or IntKind.i64 (Go.bits BinOp.or IntKind.i64 (((p.val : Nat) : Int) * 2) (((q.val : Nat) : Int))) (0) = ((ins 0 q.val p.val : Nat) : Int) := by decide +kernel
set_option maxHeartbeats 1000000 in
theorem ins_at_0 (k v : Nat) (b1 b2 : Nat) (w : World) (h1 : w.cell? ⟨b1, 0, none⟩ = some (.int .i64 0)) (h2 : w.cell? ⟨b2, 0, none⟩ = some (.int .i64 (v : Int))) (hk : k < 8) (hv : v < 2) :
    Calls Try.prog 64 #[.int .i64 k, .pointer (some ⟨b1, 0, none⟩), .pointer (some ⟨b2, 0, none⟩)] w (fun e w' => e = .returned (.int .i64 ((ins 0 v k : Nat) : Int)) ∧ ∃ m, w' = w.drewN m) := by
  go_enter Try.func64, Try.ntmps64
  go_wp2_with fail
  go_quiet (fail)
  go_wp2_with fail
  go_quiet (fail)
  go_wp2_with fail
  go_ret
  exact ⟨congrArg (fun z => Ending.returned (.int .i64 z)) (ins_key_0 ⟨k, hk⟩ ⟨v, hv⟩), _, World.drewN_drewN _ _ _⟩
theorem ins_key_1 : ∀ (p : Fin 8) (q : Fin 2), Go.bits BinOp.or IntKind.i64 (Go.bits BinOp.or IntKind.i64 (((p.val : Nat) : Int) / 2 * 4) (((q.val : Nat) : Int) * 2)) (((p.val : Nat) : Int) % 2) = ((ins 1 q.val p.val : Nat) : Int) := by decide +kernel
set_option maxHeartbeats 1000000 in
theorem ins_at_1 (k v : Nat) (b1 b2 : Nat) (w : World) (h1 : w.cell? ⟨b1, 0, none⟩ = some (.int .i64 1)) (h2 : w.cell? ⟨b2, 0, none⟩ = some (.int .i64 (v : Int))) (hk : k < 8) (hv : v < 2) :
    Calls Try.prog 64 #[.int .i64 k, .pointer (some ⟨b1, 0, none⟩), .pointer (some ⟨b2, 0, none⟩)] w (fun e w' => e = .returned (.int .i64 ((ins 1 v k : Nat) : Int)) ∧ ∃ m, w' = w.drewN m) := by
  go_enter Try.func64, Try.ntmps64
  go_wp2_with fail
  go_quiet (fail)
  go_wp2_with fail
  go_quiet (fail)
  go_wp2_with fail
  go_ret
  exact ⟨congrArg (fun z => Ending.returned (.int .i64 z)) (ins_key_1 ⟨k, hk⟩ ⟨v, hv⟩), _, World.drewN_drewN _ _ _⟩
theorem ins_key_2 : ∀ (p : Fin 8) (q : Fin 2), Go.bits BinOp.or IntKind.i64 (Go.bits BinOp.or IntKind.i64 (((p.val : Nat) : Int) / 4 * 8) (((q.val : Nat) : Int) * 4)) (((p.val : Nat) : Int) % 4) = ((ins 2 q.val p.val : Nat) : Int) := by decide +kernel
set_option maxHeartbeats 1000000 in
theorem ins_at_2 (k v : Nat) (b1 b2 : Nat) (w : World) (h1 : w.cell? ⟨b1, 0, none⟩ = some (.int .i64 2)) (h2 : w.cell? ⟨b2, 0, none⟩ = some (.int .i64 (v : Int))) (hk : k < 8) (hv : v < 2) :
    Calls Try.prog 64 #[.int .i64 k, .pointer (some ⟨b1, 0, none⟩), .pointer (some ⟨b2, 0, none⟩)] w (fun e w' => e = .returned (.int .i64 ((ins 2 v k : Nat) : Int)) ∧ ∃ m, w' = w.drewN m) := by
  go_enter Try.func64, Try.ntmps64
  go_wp2_with fail
  go_quiet (fail)
  go_wp2_with fail
  go_quiet (fail)
  go_wp2_with fail
  go_ret
  exact ⟨congrArg (fun z => Ending.returned (.int .i64 z)) (ins_key_2 ⟨k, hk⟩ ⟨v, hv⟩), _, World.drewN_drewN _ _ _⟩
theorem ins_key_3 : ∀ (p : Fin 8) (q : Fin 2), Go.bits BinOp.or IntKind.i64 (Go.bits BinOp.or IntKind.i64 (((p.val : Nat) : Int) / 8 * 16) (((q.val : Nat) : Int) * 8)) (((p.val : Nat) : Int) % 8) = ((ins 3 q.val p.val : Nat) : Int) := by decide +kernel
set_option maxHeartbeats 1000000 in
theorem ins_at_3 (k v : Nat) (b1 b2 : Nat) (w : World) (h1 : w.cell? ⟨b1, 0, none⟩ = some (.int .i64 3)) (h2 : w.cell? ⟨b2, 0, none⟩ = some (.int .i64 (v : Int))) (hk : k < 8) (hv : v < 2) :
    Calls Try.prog 64 #[.int .i64 k, .pointer (some ⟨b1, 0, none⟩), .pointer (some ⟨b2, 0, none⟩)] w (fun e w' => e = .returned (.int .i64 ((ins 3 v k : Nat) : Int)) ∧ ∃ m, w' = w.drewN m) := by
  go_enter Try.func64, Try.ntmps64
  go_wp2_with fail
  go_quiet (fail)
  go_wp2_with fail
  go_quiet (fail)
  go_wp2_with fail
  go_ret
  exact ⟨congrArg (fun z => Ending.returned (.int .i64 z)) (ins_key_3 ⟨k, hk⟩ ⟨v, hv⟩), _, World.drewN_drewN _ _ _⟩
theorem ins_at (bit k v : Nat) (b1 b2 : Nat) (w : World) (hb : bit ≤ 3) (h1 : w.cell? ⟨b1, 0, none⟩ = some (.int .i64 (bit : Int))) (h2 : w.cell? ⟨b2, 0, none⟩ = some (.int .i64 (v : Int))) (hk : k < 8) (hv : v < 2) :
    Calls Try.prog 64 #[.int .i64 k, .pointer (some ⟨b1, 0, none⟩), .pointer (some ⟨b2, 0, none⟩)] w (fun e w' => e = .returned (.int .i64 ((ins bit v k : Nat) : Int)) ∧ ∃ m, w' = w.drewN m) := by
  have h4 : bit = 0 ∨ bit = 1 ∨ bit = 2 ∨ bit = 3 := by omega
  rcases h4 with rfl | rfl | rfl | rfl
  · exact ins_at_0 k v b1 b2 w h1 h2 hk hv
  · exact ins_at_1 k v b1 b2 w h1 h2 hk hv
  · exact ins_at_2 k v b1 b2 w h1 h2 hk hv
  · exact ins_at_3 k v b1 b2 w h1 h2 hk hv
set_option maxRecDepth 100000 in
set_option maxHeartbeats 4000000 in
theorem impl_no (n : Int) (a : Option Addr) (zs : List Int) (c : Nat) (bit v : Int) (w : World) (hr : ints.Reads .i64 w a zs) (hk : tab.tabB n zs = false) :
    Calls Try.prog 36 #[.int .i64 n, .slice a zs.length c, .int .i64 bit, .int .i64 v] w (RetIB [] false w) := by
  have HT := Lib.hid (fun (wa : World) (hb : Below w.heap.size w wa) => tab.impl_tab n a zs c wa (hr.below hb) false (Lib.hid hk))
  clear hr hk
  go_enter Try.func36, Try.ntmps36
  obtain ⟨w0, hw0⟩ : ∃ w0 : World, w0 = (w.alloc (.cells #[.int .i64 bit] 3)).alloc (.cells #[.int .i64 v] 3) := ⟨_, rfl⟩
  have x0 : w0.cell? ⟨w.heap.size, 0, none⟩ = some (.int .i64 bit) := by rw [hw0]; exact cell_old _ (cell_new _ _ _ rfl rfl)
  have x1 : w0.cell? ⟨w.heap.size + 1, 0, none⟩ = some (.int .i64 v) := by rw [hw0]; exact cell_new _ _ _ (by simp) rfl
  have HB0 := Lib.hid (show Below w.heap.size w w0 by rw [hw0]; exact (below_alloc w (.cells #[.int .i64 bit] 3)).alloc (by simp) (.cells #[.int .i64 v] 3))
  have s0 : w.heap.size + 2 ≤ w0.heap.size := by rw [hw0]; simp
  go_wp2_with fail
  rw [← hw0]
  clear hw0
  refine (HT.out _ HB0.out).mono ?_
  rintro e w' ⟨rfl, m, rfl⟩
  replace x0 : (w0.drewN m).cell? ⟨w.heap.size, 0, none⟩ = some (.int .i64 bit) := x0
  replace x1 : (w0.drewN m).cell? ⟨w.heap.size + 1, 0, none⟩ = some (.int .i64 v) := x1
  go_wp2_with fail
  go_ret2
  exact ret_empty (ints.below_drewN HB0.out _)
set_option maxRecDepth 100000 in
set_option maxHeartbeats 4000000 in
theorem impl_lo (n : Int) (a : Option Addr) (zs : List Int) (c : Nat) (bit v : Int) (w : World) (hr : ints.Reads .i64 w a zs) (hk : tab.tabB n zs = true) (hx : bit < 0) :
    Calls Try.prog 36 #[.int .i64 n, .slice a zs.length c, .int .i64 bit, .int .i64 v] w (RetIB [] false w) := by
  have HT := Lib.hid (fun (wa : World) (hb : Below w.heap.size w wa) => tab.impl_tab n a zs c wa (hr.below hb) true (Lib.hid hk))
  clear hr hk
  go_enter Try.func36, Try.ntmps36
  obtain ⟨w0, hw0⟩ : ∃ w0 : World, w0 = (w.alloc (.cells #[.int .i64 bit] 3)).alloc (.cells #[.int .i64 v] 3) := ⟨_, rfl⟩
  have x0 : w0.cell? ⟨w.heap.size, 0, none⟩ = some (.int .i64 bit) := by rw [hw0]; exact cell_old _ (cell_new _ _ _ rfl rfl)
  have x1 : w0.cell? ⟨w.heap.size + 1, 0, none⟩ = some (.int .i64 v) := by rw [hw0]; exact cell_new _ _ _ (by simp) rfl
  have HB0 := Lib.hid (show Below w.heap.size w w0 by rw [hw0]; exact (below_alloc w (.cells #[.int .i64 bit] 3)).alloc (by simp) (.cells #[.int .i64 v] 3))
  have s0 : w.heap.size + 2 ≤ w0.heap.size := by rw [hw0]; simp
  go_wp2_with fail
  rw [← hw0]
  clear hw0
  refine (HT.out _ HB0.out).mono ?_
  rintro e w' ⟨rfl, m, rfl⟩
  replace x0 : (w0.drewN m).cell? ⟨w.heap.size, 0, none⟩ = some (.int .i64 bit) := x0
  replace x1 : (w0.drewN m).cell? ⟨w.heap.size + 1, 0, none⟩ = some (.int .i64 v) := x1
  go_wp2_with fail
  go_ret2
  exact ret_empty (ints.below_drewN HB0.out _)
set_option maxRecDepth 100000 in
set_option maxHeartbeats 4000000 in
theorem impl_hi (n : Int) (a : Option Addr) (zs : List Int) (c : Nat) (bit v : Int) (w : World) (hr : ints.Reads .i64 w a zs) (hk : tab.tabB n zs = true) (hx : ¬ bit < 0) (hx2 : n ≤ bit) :
    Calls Try.prog 36 #[.int .i64 n, .slice a zs.length c, .int .i64 bit, .int .i64 v] w (RetIB [] false w) := by
  have HT := Lib.hid (fun (wa : World) (hb : Below w.heap.size w wa) => tab.impl_tab n a zs c wa (hr.below hb) true (Lib.hid hk))
  clear hr hk
  go_enter Try.func36, Try.ntmps36
  obtain ⟨w0, hw0⟩ : ∃ w0 : World, w0 = (w.alloc (.cells #[.int .i64 bit] 3)).alloc (.cells #[.int .i64 v] 3) := ⟨_, rfl⟩
  have x0 : w0.cell? ⟨w.heap.size, 0, none⟩ = some (.int .i64 bit) := by rw [hw0]; exact cell_old _ (cell_new _ _ _ rfl rfl)
  have x1 : w0.cell? ⟨w.heap.size + 1, 0, none⟩ = some (.int .i64 v) := by rw [hw0]; exact cell_new _ _ _ (by simp) rfl
  have HB0 := Lib.hid (show Below w.heap.size w w0 by rw [hw0]; exact (below_alloc w (.cells #[.int .i64 bit] 3)).alloc (by simp) (.cells #[.int .i64 v] 3))
  have s0 : w.heap.size + 2 ≤ w0.heap.size := by rw [hw0]; simp
  go_wp2_with fail
  rw [← hw0]
  clear hw0
  refine (HT.out _ HB0.out).mono ?_
  rintro e w' ⟨rfl, m, rfl⟩
  replace x0 : (w0.drewN m).cell? ⟨w.heap.size, 0, none⟩ = some (.int .i64 bit) := x0
  replace x1 : (w0.drewN m).cell? ⟨w.heap.size + 1, 0, none⟩ = some (.int .i64 v) := x1
  go_wp2_with fail
  go_ret2
  exact ret_empty (ints.below_drewN HB0.out _)
set_option maxRecDepth 100000 in
set_option maxHeartbeats 4000000 in
theorem impl_no3 (n : Int) (a : Option Addr) (zs : List Int) (c : Nat) (bit v : Int) (w : World) (hr : ints.Reads .i64 w a zs) (hk : tab.tabB n zs = true) (hx : ¬ bit < 0) (hx2 : ¬ n ≤ bit) (hy : inR 0 1 v = false) :
    Calls Try.prog 36 #[.int .i64 n, .slice a zs.length c, .int .i64 bit, .int .i64 v] w (RetIB [] false w) := by
  have HT := Lib.hid (fun (wa : World) (hb : Below w.heap.size w wa) => tab.impl_tab n a zs c wa (hr.below hb) true (Lib.hid hk))
  have HY := Lib.hid (Lib.hid hy)
  clear hr hk hy
  go_enter Try.func36, Try.ntmps36
  obtain ⟨w0, hw0⟩ : ∃ w0 : World, w0 = (w.alloc (.cells #[.int .i64 bit] 3)).alloc (.cells #[.int .i64 v] 3) := ⟨_, rfl⟩
  have x0 : w0.cell? ⟨w.heap.size, 0, none⟩ = some (.int .i64 bit) := by rw [hw0]; exact cell_old _ (cell_new _ _ _ rfl rfl)
  have x1 : w0.cell? ⟨w.heap.size + 1, 0, none⟩ = some (.int .i64 v) := by rw [hw0]; exact cell_new _ _ _ (by simp) rfl
  have HB0 := Lib.hid (show Below w.heap.size w w0 by rw [hw0]; exact (below_alloc w (.cells #[.int .i64 bit] 3)).alloc (by simp) (.cells #[.int .i64 v] 3))
  have s0 : w.heap.size + 2 ≤ w0.heap.size := by rw [hw0]; simp
  go_wp2_with fail
  rw [← hw0]
  clear hw0
  refine (HT.out _ HB0.out).mono ?_
  rintro e w' ⟨rfl, m, rfl⟩
  replace x0 : (w0.drewN m).cell? ⟨w.heap.size, 0, none⟩ = some (.int .i64 bit) := x0
  replace x1 : (w0.drewN m).cell? ⟨w.heap.size + 1, 0, none⟩ = some (.int .i64 v) := x1
  go_wp2_with fail
  refine (bit_any _ _ false HY.out).mono ?_
  rintro e w' ⟨rfl, rfl⟩
  go_wp2_with fail
  go_ret2
  exact ret_empty (ints.below_drewN HB0.out _)
set_option maxRecDepth 100000 in
set_option maxHeartbeats 4000000 in
theorem impl_yes (n : Int) (a : Option Addr) (zs : List Int) (c : Nat) (bit v : Nat) (w : World) (hr : ints.Reads .i64 w a zs) (hk : tab.tabB n zs = true) (hx : (bit : Int) < n) (hy : v < 2) :
    Calls Try.prog 36 #[.int .i64 n, .slice a zs.length c, .int .i64 bit, .int .i64 v] w (RetIB (rest zs bit v zs.length) true w) := by
  have HT := Lib.hid (fun (wa : World) (hb : Below w.heap.size w wa) => tab.impl_tab n a zs c wa (hr.below hb) true (Lib.hid hk))
  have HY := Lib.hid (Lib.hid (show inR 0 1 (v : Int) = true from (inR_iff _ _ _).2 (by omega)))
  obtain ⟨m0, rfl, h4, hpw, h16, hrg⟩ := tab_nat hk
  obtain ⟨m1, rfl⟩ : ∃ m1, m0 = m1 + 1 := ⟨m0 - 1, by omega⟩
  have HR := Lib.hid hr
  have HL := Lib.hid hpw
  have HM := Lib.hid (rest_mk zs (n := m1) (b := bit) (v := v) (by omega) (by omega) hy)
  have hm1 : m1 ≤ 4 := by omega
  have HI := Lib.hid (show ∀ k : Nat, k < 2 ^ m1 → k < 8 → ins bit v k < 2 ^ (m1 + 1) from fun (k : Nat) (hk : k < 2 ^ m1) (h8 : k < 8) => ins_lt ⟨m1, by omega⟩ ⟨bit, by omega⟩ ⟨v, hy⟩ (by show bit < m1 + 1; omega) ⟨k, h8⟩ hk)
  have h8 : 2 ^ m1 ≤ 8 := Nat.le_trans (Nat.pow_le_pow_right (by omega) (show m1 ≤ 3 by omega)) (by decide)
  have hb3 : bit ≤ 3 := by omega
  have g1 : ¬ ((bit : Int) < 0) := by omega
  have g2 : ¬ ((m1 : Int) + 1 ≤ (bit : Int)) := by omega
  clear hk hr hpw hrg hx
  go_enter Try.func36, Try.ntmps36
  obtain ⟨w0, hw0⟩ : ∃ w0 : World, w0 = (w.alloc (.cells #[.int .i64 (bit : Int)] 3)).alloc (.cells #[.int .i64 (v : Int)] 3) := ⟨_, rfl⟩
  have x0 : w0.cell? ⟨w.heap.size, 0, none⟩ = some (.int .i64 (bit : Int)) := by rw [hw0]; exact cell_old _ (cell_new _ _ _ rfl rfl)
  have x1 : w0.cell? ⟨w.heap.size + 1, 0, none⟩ = some (.int .i64 (v : Int)) := by rw [hw0]; exact cell_new _ _ _ (by simp) rfl
  have HB0 := Lib.hid (show Below w.heap.size w w0 by rw [hw0]; exact (below_alloc w (.cells #[.int .i64 (bit : Int)] 3)).alloc (by simp) (.cells #[.int .i64 (v : Int)] 3))
  have s0 : w.heap.size + 2 ≤ w0.heap.size := by rw [hw0]; simp
  go_wp2_with fail
  rw [← hw0]
  clear hw0
  refine (HT.out _ HB0.out).mono ?_
  rintro e w' ⟨rfl, m, rfl⟩
  replace x0 : (w0.drewN m).cell? ⟨w.heap.size, 0, none⟩ = some (.int .i64 (bit : Int)) := x0
  replace x1 : (w0.drewN m).cell? ⟨w.heap.size + 1, 0, none⟩ = some (.int .i64 (v : Int)) := x1
  go_wp2_with fail
  refine (bit_any _ _ true HY.out).mono ?_
  rintro e w' ⟨rfl, rfl⟩
  go_wp2_with fail
  obtain ⟨wp, hwp⟩ : ∃ wp : World, wp = w0.drewN m := ⟨_, rfl⟩
  have HBp := Lib.hid (show Below w.heap.size w wp by rw [hwp]; exact ints.below_drewN HB0.out m)
  have s1 : w.heap.size + 2 ≤ wp.heap.size := by rw [hwp]; exact s0
  rw [← hwp] at x0 x1 ⊢
  clear hwp
  refine (from_RestrictBit m1 hm1 a zs c (.pointer (some ⟨w.heap.size, 0, none⟩)) (.pointer (some ⟨w.heap.size + 1, 0, none⟩)) (fun k => ins bit v k) wp (HR.out.below HBp.out) (Lib.hid (fun k hk => by have := HI.out k hk (by omega); have := HL.out; omega)) (by omega) (Lib.hid (fun k wr hk hb => ins_at bit k v _ _ wr hb3 (cell_below hb x0 (by omega)) (cell_below hb x1 (by omega)) (by omega) hy))).mono ?_
  rintro e w3 ⟨v3, rfl, hov, hb3'⟩
  rw [← HM.out, ← HL.out] at hov
  have hsz := HBp.out.size
  have HF := Lib.hid (show RetIB (rest zs bit v zs.length) true w (.returned (.tuple #[v3, .bool true])) w3 from ⟨v3, rfl, hov.mono hsz (Nat.le_refl _), HBp.out.trans (hb3'.mono hsz)⟩)
  clear hov hb3'
  go_wp2_with fail
  go_ret2
  exact HF.out
end Go.Proofs.Ytchlkcmgonbcjaa.restr
