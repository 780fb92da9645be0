/- The walk of the library's join of any number of lists of integers, empty ones with a place too. -/
import Derived.Test.YtkbcofgigfnfaabConcatE
import Derived.Test.YtkbcofgigfnfaabConcL
namespace Go.Proofs.Ytkbcofgigfnfaab.concm
open Go.RowKit own own1 concate concl
set_option linter.unusedVariables false
set_option linter.unusedSimpArgs false

set_option maxRecDepth 100000 in
set_option maxHeartbeats 1600000 in
theorem concatM (b off K cc : Nat) (p : Nat → Option Addr) (n c : Nat → Nat) (V : Nat → List Value) (w : World) (hb : b < w.heap.size) (hK : K ≤ 1000) (hS : sumN n K ≤ 300000)
    (HC : Hid (∀ k, k < K → w.cell? ⟨b, off + k, none⟩ = some (.slice (p k) (n k) (c k)) ∧ (∃ b9 o9, p k = some ⟨b9, o9, none⟩ ∧ b9 < w.heap.size ∧ ∀ i u, (V k)[i]? = some u → w.cell? ((⟨b9, o9, none⟩ : Addr).add i) = some u) ∧ (V k).length = n k * 1 ∧ ∀ u ∈ V k, u.oneCell' = true)) :
    Calls Try.prog 166 #[.slice (some ⟨b, off, none⟩) K cc] w (fun e w' => ∃ v, e = .returned v ∧ w'.ownsRow w.heap.size 3 1 v (sumN n K) (catV V K) ∧ Below w.heap.size w w') := by
  obtain ⟨i0, hi, hz0, hz1, hz2⟩ := info_parts infoInt
  have HGR := Lib.hid (growsI (sumN n K) ((sumN n K : Nat) : Int) rfl (by omega) w)
  go_enter Try.func166, Try.ntmps166
  go_wp2_with fail
  go_loopw [3, 11] (fun s i wr => ∃ k : Nat, k ≤ K ∧ i = .int .i64 k ∧ s = .int .i64 ((sumN n k : Nat) : Int) ∧ w = wr) (fun _ i _ => K - (intOf i).toNat)
  case atStart => exact ⟨0, by omega, rfl, rfl, rfl⟩
  case round =>
    obtain ⟨k, hk, rfl, rfl, rfl⟩ := hrel
    by_cases hlt : k < K
    · have hc := (HC.out k hlt).1
      have HSS := Lib.hid (show sumN n (k + 1) = sumN n k + n k from rfl)
      have hle := sumN_mono n (k + 1) K (by omega)
      rw [HSS.out] at hle
      generalize sumN n k = s at *
      generalize n k = m at *
      generalize p k = q at *
      generalize c k = d at *
      go_wp2_with fail
      go_roundw
      case rel => exact ⟨k + 1, by omega, by go_num, by rw [HSS.out]; go_num, by first | rfl | trivial⟩
      case measure => simp [intOf]; omega
    · obtain rfl : k = K := by omega
      have HSum := Lib.hid (show sumN n k = sumN n k from rfl)
      go_wp2_with fail
      refine HGR.out.mono ?_
      rintro e w1 ⟨v, rfl, hown, hbw⟩
      have HOw := Lib.hid hown
      have HB1 := Lib.hid hbw
      have hs1 := hbw.size
      clear hown hbw
      go_wp2_with fail
      go_loopw [6, 27] (fun v i wr => ∃ j : Nat, j ≤ k ∧ i = .int .i64 j ∧ wr.ownsRow w.heap.size 3 1 v (sumN n j) (catV V j) ∧ Below w.heap.size w wr) (fun _ i _ => k - (intOf i).toNat)
      case atStart => exact ⟨0, by omega, rfl, HOw.out, HB1.out⟩
      case round =>
        obtain ⟨j, hj, rfl, hown, hbel⟩ := hrel
        by_cases hjl : j < k
        · obtain ⟨hc0, hca, hvl, hvo⟩ := HC.out j hjl
          replace hc0 := cell_below hbel hc0 hb
          have HO := Lib.hid hown
          have HBl := Lib.hid hbel
          have hsz := hbel.size
          have hle := sumN_mono n (j + 1) k (by omega)
          have HSS := Lib.hid (show sumN n (j + 1) = sumN n j + n j from rfl)
          have HCC := Lib.hid (show catV V (j + 1) = catV V j ++ V j from rfl)
          have HVL := Lib.hid hvl
          have HVO := Lib.hid hvo
          rw [HSS.out] at hle
          obtain ⟨b9, o9, hp9, hb9', hn9'⟩ := hca
          have hb9 : b9 < wr.heap.size := by omega
          have hn9 : ∀ i u, (V j)[i]? = some u → wr.cell? ((⟨b9, o9, none⟩ : Addr).add i) = some u := fun i u hu => (World.cell?_of_block (by rw [Go.WideShapes.add_plain]; exact hbel.block b9 hb9')).trans (hn9' i u hu)
          rw [hp9] at hc0
          have HNW := Lib.hid hn9
          clear hown hbel hvl hvo hn9 hn9' hb9' hp9
          generalize sumN n j = s at *
          generalize catV V j = F at *
          generalize n j = m at *
          generalize V j = us at *
          generalize c j = d at *
          go_wp2_with (at_builtin; refine wpList_append_own _ rfl _ _ 23 rfl w.heap.size 3 i0 (.int .i64 0) 1 8 Try.underlying23 hi hz0 hz1 hz2 rfl (by decide) _ _ _ rfl HO.out ⟨b9, o9, none⟩ m d us rfl HVL.out HNW.out HVO.out (by unfold maxLen; omega) (by omega) (by omega) ?_; intro v' w2 hown' hgrow _)
          have HB2 := Lib.hid (HBl.out.grown hgrow (by omega) (fun g e => (HO.out.lt g e).1))
          have HO2 := Lib.hid hown'
          clear hown' hgrow
          go_wp2_with fail
          go_roundw
          case rel => exact ⟨j + 1, by omega, by go_num, by rw [HSS.out, HCC.out]; exact HO2.out, HB2.out⟩
          case measure => simp [intOf]; omega
        · obtain rfl : j = k := by omega
          have HF := Lib.hid (show ∃ v, Ending.returned u6 = .returned v ∧ wr.ownsRow w.heap.size 3 1 v (sumN n j) (catV V j) ∧ Below w.heap.size w wr from ⟨u6, rfl, hown, hbel⟩)
          clear hown hbel
          go_wp2_with fail
          go_ret
          exact HF.out
end Go.Proofs.Ytkbcofgigfnfaab.concm
