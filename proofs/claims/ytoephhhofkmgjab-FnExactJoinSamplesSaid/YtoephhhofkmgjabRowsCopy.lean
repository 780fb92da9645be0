/- The walks of the model's copy of lists of lists and of the program's sample of changed points. -/
import Derived.Test.YtoephhhofkmgjabGridFns
import Derived.Test.YtoephhhofkmgjabOwn1
import Derived.Test.YtoephhhofkmgjabSetCell
import Derived.OwnWalk
import Derived.RangeFuncBox
namespace Go.Proofs.Ytoephhhofkmgjab.rowscopy
open Go.RowKit own
set_option linter.unusedVariables false
set_option linter.unusedSimpArgs false

theorem infoInts : (Try.prog.info? 22).map (fun i => (i.zero, i.size, i.bytes)) = some (some (.slice none 0 0), 1, 24) := by kernel_rfl
theorem ownG_empty (w : World) : w.heap.size ≤ w.heap.size ∧ (w.alloc (.cells #[] 22)).ownsRow w.heap.size 22 1 (.slice (some ⟨w.heap.size, 0, none⟩) 0 0) 0 [] :=
  ⟨Nat.le_refl _, World.ownsRow_made (base := w.heap.size) (e := 22) (size := 1) w #[] 0 (Nat.le_refl _) (by unfold maxLen; omega) rfl⟩

/-- One more row behind an append. -/
theorem push {lo hi k : Nat} {w2 w3 : World} {v c : Value} {cs : List Value} {rows : List (List Int)} {O : Obj} (ho : w2.ownsRow lo 22 1 v k cs) (hr : RowsOf lo hi w2 cs (rows.take k)) (hc : OwnI hi w2.heap.size w2 c (rows.getD k [])) (h1 : lo ≤ hi) (h2 : hi ≤ w2.heap.size) (hk : k < rows.length)
    (hg : (w2.alloc O).grownBy w3 v.ownBlock) : RowsOf lo w3.heap.size w3 (cs ++ [c]) (rows.take (k + 1)) := by
  have h := hr.snoc hc h1 h2
  rw [← take_snoc_getD rows k hk] at h
  have hs : w2.heap.size ≤ w3.heap.size := Nat.le_trans (by simp) hg.size
  refine (h.keep fun g hl hh hgs hbl => ?_).mono (Nat.le_refl _) hs
  rw [hg.block g (by simp; omega) (fun e => ?_), Below.heap_alloc w2 O g hgs]
  obtain ⟨i, hi', hb⟩ := hbl
  exact ownsRow_ne (h.2.1 i hi').1 ho (by decide) hb e.symm

set_option maxRecDepth 100000 in
set_option maxHeartbeats 2000000 in
theorem spec_copy (a : Option Addr) (rows : List (List Int)) (c : Nat) (w : World) (hr : grid.Reads w a rows) (hn : (rows.length : Int) + (grid.tot rows : Int) ≤ 1048576) (hp : ∀ k, k < rows.length → 0 < (rows.getD k []).length) :
    Calls Try.prog 61 #[.slice a rows.length c] w (MadeG rows w) := by
  obtain ⟨i0, hi, hz0, hz1, hz2⟩ := info_parts infoInts
  have HR := Lib.hid hr
  have HP := Lib.hid hp
  clear hr hp
  go_enter Try.func61, Try.ntmps61
  go_wp2_with fail
  have hown0 := (ownG_empty w).2
  have hb0 := below_alloc w (.cells #[] 22)
  go_loopw [3, 4] (fun v i wr => ∃ (k : Nat) (cs : List Value), k ≤ rows.length ∧ i = .int .i64 k ∧ wr.ownsRow w.heap.size 22 1 v k cs ∧ RowsOf w.heap.size wr.heap.size wr cs (rows.take k) ∧ Below w.heap.size w wr) (fun _ i _ => rows.length - (intOf i).toNat)
  case atStart => exact ⟨0, [], Nat.zero_le _, rfl, hown0, by simpa using RowsOf.nil _ _ _, hb0⟩
  case round =>
    obtain ⟨k, cs, hk, rfl, hown, hrows, hbel⟩ := hrel
    have HV := Lib.hid hown.lt
    have HO := Lib.hid hown
    have HRW := Lib.hid hrows
    have HBl := Lib.hid hbel
    have hsz := hbel.size
    clear hown0 hb0
    by_cases hlt : k < rows.length
    · obtain ⟨bl, off, p, q, rfl, hbl, hc, hpq, hrow⟩ := (HR.out.below hbel).at hlt
      have hle := grid.getD_le_tot rows k
      have hpos := HP.out k hlt
      have HRr := Lib.hid hrow
      have HE := Lib.hid (show rows.getD k [] = rows.getD k [] from rfl)
      obtain ⟨r, hrr⟩ : ∃ r, rows.getD k [] = r := ⟨_, rfl⟩
      rw [hrr] at hc hpq hle hpos HRr
      have HQ := Lib.hid hrr
      clear hown hrows hbel hrow hrr HE
      go_wp2_with fail
      refine (own1.spec_own p r q wr HRr.out (by omega) hpos).mono ?_
      rintro e w2 ⟨v2, rfl, ho2, hb2⟩
      obtain ⟨p2, q2, hv2, _, _, _⟩ := ho2.slice
      subst hv2
      have hog : w2.ownsRow w.heap.size 22 1 u3 k cs := ownsRow_block HO.out fun g hg => hb2.block g (HO.out.lt g hg).2
      have hrg : RowsOf w.heap.size wr.heap.size w2 cs (rows.take k) := HRW.out.below hb2
      have HOG := Lib.hid hog
      have HRG := Lib.hid hrg
      have HO2 := Lib.hid ho2
      have HB2 := Lib.hid (HBl.out.trans (hb2.mono hsz))
      have hs2 := hb2.size
      clear hrg ho2 hb2
      go_wp2_with (at_builtin; refine wpList_append_own _ rfl _ _ 28 rfl w.heap.size 22 i0 (.slice none 0 0) 1 24 Try.underlying28 hi hz0 hz1 hz2 rfl (by decide) _ _ _ rfl (hog.alloc _) ⟨w2.heap.size, 0, none⟩ 1 1 [.slice p2 r.length q2] rfl rfl (cell_one_new _ _ _) (by simp [Value.oneCell']) (by unfold maxLen; omega) (by omega) (by simp; omega) ?_; intro v' w3 hown' hgrow _)
      obtain ⟨g', cap', hv'⟩ := ownsRow_succ hown'
      subst hv'
      have HO3 := Lib.hid hown'
      have HR3 := Lib.hid (push (rows := rows) HOG.out HRG.out (by rw [HQ.out]; exact HO2.out) hsz hs2 hlt hgrow)
      have HB3 := Lib.hid ((HB2.out.alloc (by omega) _).grown hgrow (by simp; omega) (fun g e => (HV.out g e).1))
      clear hog hown' hgrow
      go_wp2_with fail
      go_roundw
      case rel => exact ⟨k + 1, cs ++ [.slice p2 r.length q2], by omega, by go_num, HO3.out, HR3.out, HB3.out⟩
      case measure => simp [intOf]; omega
    · obtain rfl : k = rows.length := by omega
      have HF := Lib.hid (show MadeG rows w (.returned u3) wr from ⟨u3, rfl, ⟨cs, hown, fun g hg => (hown.lt g hg).2, by rw [List.take_length] at hrows; exact hrows⟩, hbel⟩)
      clear hown hrows hbel
      go_wp2_with fail
      go_ret
      exact HF.out
end Go.Proofs.Ytoephhhofkmgjab.rowscopy
