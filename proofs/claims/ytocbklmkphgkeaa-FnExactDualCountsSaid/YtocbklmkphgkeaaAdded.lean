/- The walks of the model's and the program's sum of two lists, place by place. -/
import Derived.Test.YtocbklmkphgkeaaFill
import Derived.Test.YtocbklmkphgkeaaChanged
import Derived.Test.YtocbklmkphgkeaaMinus
import Derived.Test.YtocbklmkphgkeaaStep
import Derived.StillTailTactics
import Derived.Deep.RegionHeld3
import Derived.Deep.DrawnRows
import Derived.Deep.AppendLies
namespace Go.Proofs.Ytocbklmkphgkeaa.added2
open Go.RowKit own pp nums fill
attribute [local go_sem ↓] Go.wp_at_zero Go.wp_at_succ
set_option linter.unusedVariables false
set_option linter.unusedSimpArgs false

def plus (xs ys : List Int) (k : Nat) : List Int := (List.range k).map fun i => xs.getD i 0 + ys.getD i 0
theorem plus_length (xs ys : List Int) (k : Nat) : (plus xs ys k).length = k := by simp [plus]
theorem plus_succ (xs ys : List Int) (k : Nat) : plus xs ys (k + 1) = plus xs ys k ++ [xs.getD k 0 + ys.getD k 0] := by simp [plus, List.range_succ]
theorem plus_pf (xs ys : List Int) : pf (fun i => xs.getD i 0 + ys.getD i 0) xs xs.length = plus xs ys xs.length := pf_all _ _
set_option maxRecDepth 100000 in
set_option maxHeartbeats 1000000 in
theorem spec_added (a : Option Addr) (xs : List Int) (c : Nat) (a' : Option Addr) (ys : List Int) (c' : Nat) (w : World) (hr : ints.Reads .i64 w a xs) (hs : ints.Reads .i64 w a' ys) (hl : ys.length = xs.length) (hn : xs.length ≤ 1048576) (hx : numsB 9 xs = true) (hy : numsB 9 ys = true) :
    Calls Try.prog 73 #[.slice a xs.length c, .slice a' ys.length c'] w (intfns.Made (plus xs ys xs.length) w) := by
  obtain ⟨i0, hi, hz0, hz1, hz2⟩ := info_parts minus.infoInt
  have HX := Lib.hid hx
  have HY := Lib.hid hy
  have HL := Lib.hid hl
  clear hx hy hl
  go_enter Try.func73, Try.ntmps73
  go_wp2_with fail
  have hown0 := (own_empty w).1
  have hb0 := below_alloc w (.cells #[] 3)
  go_loopw [5, 6] (fun v i wr => ∃ (k : Nat), k ≤ xs.length ∧ i = .int .i64 k ∧ wr.ownsRow w.heap.size 3 1 v k ((plus xs ys k).map (Value.int .i64)) ∧ Below w.heap.size w wr) (fun _ i _ => xs.length - (intOf i).toNat)
  case atStart => exact ⟨0, Nat.zero_le _, rfl, hown0, hb0⟩
  case round =>
    obtain ⟨k, hk, rfl, hown, hbel⟩ := hrel
    have hvb := hown.lt
    have HV := Lib.hid hvb
    have HBl := Lib.hid hbel
    have hsz := hbel.size
    clear hown0 hb0 hvb
    by_cases hlt : k < xs.length
    · obtain ⟨b, off, rfl, hb, hc⟩ := hr.at hlt
      obtain ⟨b2, off2, rfl, hb2, hc2⟩ := hs.at (k := k) (by have := HL.out; omega)
      replace hc := cell_below hbel hc hb
      replace hc2 := cell_below hbel hc2 hb2
      have HSn := Lib.hid (plus_succ xs ys k)
      have hbd := numsB_at HX.out k hlt
      have hbe := numsB_at HY.out k (by have := HL.out; omega)
      have HO := Lib.hid hown
      have i3 : (k : Int) < (ys.length : Int) := by have := HL.out; omega
      clear hown hbel
      generalize xs.getD k 0 = x at *
      generalize ys.getD k 0 = y at *
      have i1 : (0 : Int) ≤ (k : Int) := by omega
      have i2 : (k : Int) < (xs.length : Int) := by omega
      have e1 : IntKind.i64.wrap (x + y) = x + y := IntWalk.i64_in _ (by omega)
      have HA := Lib.hid (show ∀ (W W3 : World) (o : Option Nat), (W.cell? ⟨b, off + k, none⟩ = some (.int .i64 x) ∧ W.cell? ⟨b2, off2 + k, none⟩ = some (.int .i64 y) ∧ Below w.heap.size w W) → W.grownBy W3 o → (∀ g, o = some g → w.heap.size ≤ g) → (W3.cell? ⟨b, off + k, none⟩ = some (.int .i64 x) ∧ W3.cell? ⟨b2, off2 + k, none⟩ = some (.int .i64 y) ∧ Below w.heap.size w W3) from fun W W3 o hS hg ho => ⟨hg.cell hS.1 (fun e => by have := ho _ e.symm; simp at this; omega), hg.cell hS.2.1 (fun e => by have := ho _ e.symm; simp at this; omega), hS.2.2.grown hg hS.2.2.size ho⟩)
      go_wp2_with fail
      go_region_held3 (fun w' => w'.cell? ⟨b, off + k, none⟩ = some (.int .i64 x) ∧ w'.cell? ⟨b2, off2 + k, none⟩ = some (.int .i64 y) ∧ Below w.heap.size w w') (first | assumption | exact ⟨hc, hc2, HBl.out⟩ | exact ⟨hc, hc2, HBl.out.drew⟩ | exact ⟨cell_old _ hc, cell_old _ hc2, HBl.out.alloc hsz _⟩ | exact ⟨cell_old _ hc, cell_old _ hc2, (HBl.out.alloc hsz _).drew⟩ | (refine HA.out _ _ _ ?_ hgrow (fun g e => (HV.out g e).1); first | exact ⟨cell_old _ hc, cell_old _ hc2, HBl.out.alloc hsz _⟩ | exact ⟨cell_old _ hc, cell_old _ hc2, (HBl.out.alloc hsz _).drew⟩ | exact ⟨cell_old _ hc, cell_old _ hc2, HBl.out.drew.alloc hsz _⟩)) (first | (refine step_append_lies _ (by rfl) _ _ _ (by rfl) w.heap.size 3 i0 _ 1 8 Try.underlying23 hi hz0 hz1 hz2 rfl (by omega) u5 k ((plus xs ys k).map (Value.int .i64)) (by rfl) ((HO.out.alloc _).drew) ⟨wr.heap.size, 0, none⟩ 1 1 [.int .i64 (x + y)] (by rfl) (by rfl) (World.news_of_block (cs := #[.int .i64 (x + y)]) (t := 3) (fr := (0, 0)) (heap_alloc_new wr _)) (by simp [Value.oneCell']) (by omega) (by unfold maxLen; omega) (by omega) (by simp; omega) (wr.heap.size + 1) (by simp) ?_; intro gg cap w2 hown' hgrow hat hlt'))
      have hown' := hown'
      have HO2 := Lib.hid hown'
      have HB2 := Lib.hid ((HBl.out.alloc hsz _).drew.grown hgrow (by simp; omega) (fun g e => (HV.out g e).1))
      clear hown' hgrow hat hlt' HA
      go_wp2_with fail
      go_roundw
      case rel => exact ⟨k + 1, by omega, by go_num, by rw [HSn.out, List.map_append]; exact HO2.out, HB2.out⟩
      case measure => simp [intOf]; omega
    · have hk2 : k = xs.length := by omega
      have HF1 := Lib.hid (show intfns.Made (plus xs ys xs.length) w (.returned u5) wr from ⟨u5, rfl, OwnI.of (by rw [plus_length]; rw [hk2] at hown; exact hown), HBl.out⟩)
      clear hown hbel hk2
      go_wp2_with fail
      go_ret
      exact HF1.out
set_option maxRecDepth 100000 in
set_option maxHeartbeats 4000000 in
theorem impl_moved (a : Option Addr) (xs : List Int) (c : Nat) (a' : Option Addr) (ys : List Int) (c' : Nat) (hb : Nat) (w : World) (hr : ints.Reads .i64 w a xs) (hs : ints.Reads .i64 w a' ys) (hl : ys.length = xs.length) (h0 : 0 < xs.length) (hn : xs.length ≤ 1048576) (hx : numsB 9 xs = true) (hy : numsB 9 ys = true) (hc : w.cell? ⟨hb, 0, none⟩ = some (.slice a' ys.length c')) (hbl : hb < w.heap.size) :
    Calls Try.prog 79 #[.slice a xs.length c, .pointer (some ⟨hb, 0, none⟩)] w (intfns.Made (plus xs ys xs.length) w) := by
  obtain ⟨i0, hi, hz0, hz1, hz2⟩ := info_parts minus.infoInt
  have HX := Lib.hid hx
  have HY := Lib.hid hy
  have HL := Lib.hid hl
  have Hhr := Lib.hid hr
  have Hhs := Lib.hid hs
  have HC0 := Lib.hid hc
  have HCL := Lib.hid (changed.clone_any a xs c w hr hn)
  clear hx hy hl hr hs
  go_enter Try.func79, Try.ntmps79
  go_wp2_with fail
  refine HCL.out.mono ?_
  rintro e w1 ⟨v, rfl, ho, hb1⟩
  obtain ⟨g, cap, rfl, hg1, hg2⟩ := step.form ho h0
  have HO := Lib.hid ho.1
  have HB1 := Lib.hid hb1
  have hs1 := hb1.size
  clear ho hb1 hc
  go_wp2_with fail
  go_loopw [10] (fun i wr => ∃ k : Nat, k ≤ xs.length ∧ i = .int .i64 k ∧ wr.ownsRow w.heap.size 3 1 (.slice (some ⟨g, 0, none⟩) xs.length cap) xs.length ((pf (fun i => xs.getD i 0 + ys.getD i 0) xs k).map (Value.int .i64)) ∧ Below w.heap.size w wr) (fun i _ => xs.length - (intOf i).toNat)
  case atStart => exact ⟨0, Nat.zero_le _, rfl, by rw [pf_zero]; exact HO.out, HB1.out⟩
  case round =>
    obtain ⟨k, hk, rfl, hown, hbel⟩ := hrel
    have HBl := Lib.hid hbel
    by_cases hlt : k < xs.length
    · obtain ⟨xb, xo, hxa, hxb, hxc⟩ := (Hhs.out.below hbel).at (k := k) (by have := HL.out; omega)
      subst hxa
      have hc3 := cell_below hbel HC0.out hbl
      have hcell := pf_cell hown hlt
      have hfro := hown.frozenAt k
      have HST := Lib.hid (pf_store hown hlt (xs.getD k 0 + ys.getD k 0) rfl)
      have hbd := numsB_at HX.out k hlt
      have hbe := numsB_at HY.out k (by have := HL.out; omega)
      have i1 : (0 : Int) ≤ (k : Int) := by omega
      have i2 : (k : Int) < (ys.length : Int) := by have := HL.out; omega
      have i3 : (k : Int) < (xs.length : Int) := by omega
      clear hown hbel
      generalize xs.getD k 0 = x at *
      generalize ys.getD k 0 = y at *
      have e1 : IntKind.i64.wrap (x + y) = x + y := IntWalk.i64_in _ (by omega)
      clear hbd hbe
      go_wp2_with fail
      go_still_tail 9, (by kernel_rfl)
      go_wp2_with fail
      go_roundw
      case rel => exact ⟨k + 1, by omega, by go_num, HST.out, (HBl.out.setCell (by simp; omega) _).drew⟩
      case measure => simp [intOf]; omega
    · obtain rfl : k = xs.length := by omega
      rw [plus_pf] at hown
      have HO2 := Lib.hid hown
      clear hown hbel
      go_wp2_with fail
      go_ret
      exact ⟨_, rfl, OwnI.of (by rw [plus_length]; exact HO2.out), HBl.out⟩
end Go.Proofs.Ytocbklmkphgkeaa.added2
