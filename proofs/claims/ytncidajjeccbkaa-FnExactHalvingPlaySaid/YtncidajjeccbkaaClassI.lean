/- The walk of the program's test of a class. -/
import Derived.Test.YtncidajjeccbkaaClassP
import Derived.Test.YtncidajjeccbkaaSamplesV
import Derived.Test.YtncidajjeccbkaaSetCmp
import Derived.Test.YtncidajjeccbkaaRange
namespace Go.Proofs.Ytncidajjeccbkaa.classi
open Go.RowKit own pp nums samplesv setcmp setord cls range
set_option linter.unusedVariables false
set_option linter.unusedSimpArgs false

theorem any_lab (zs : List Int) : zs.any (fun z => !(labelB z)) = !(labelsB zs) := by
  unfold labelsB
  induction zs with
  | nil => rfl
  | cons z zs ih => simp [List.any_cons, List.all_cons, ih]
theorem labels_at (w : World) : PredAt Try.prog 86 #[] (Value.int .i64) (fun z => !(labelB z)) w := by
  intro W z hB
  show Calls _ _ #[.int .i64 z] W _
  obtain ⟨ok, hx⟩ : ∃ ok, labelB z = ok := ⟨_, rfl⟩
  have HX := Lib.hid hx
  refine Calls.mono (show Calls Try.prog 86 #[.int .i64 z] W (fun e w' => e = .returned (.bool (!ok)) ∧ ∃ q, w' = W.drewN q) from ?_) (fun e w' h => ⟨by rw [h.1]; simp [HX.out], h.2⟩)
  clear hx hB
  go_enter Try.func86, Try.ntmps86
  go_wp2_with fail
  refine (impl_label z _ ok HX).mono ?_
  rintro e w' ⟨rfl, rfl⟩
  cases ok
  all_goals (go_wp2_with fail; go_ret; exact ⟨rfl, 0, rfl⟩)
set_option maxHeartbeats 1000000 in
theorem impl_labels (a : Option Addr) (zs : List Int) (c : Nat) (w : World) (hr : ints.Reads .i64 w a zs) (hn : zs.length ≤ 1048576) (ok : Bool) (h : Hid (labelsB zs = ok)) :
    Calls Try.prog 50 #[.slice a zs.length c] w (fun e w' => e = .returned (.bool ok) ∧ ∃ q, w' = w.drewN q) := by
  have HC := Lib.hid (show Calls Try.prog 85 #[.slice a zs.length c, .func (.func 86) #[] #[]] w fun e w' => e = .returned (.bool (!ok)) ∧ ∃ q, w' = w.drewN q from by
    rcases hr with rfl | ⟨b, off, rfl, hb, hc⟩
    · refine (Try.slices_ContainsFunc_empty_f85 (α := Int) _ _ _ _).mono ?_
      rintro e w' ⟨rfl, rfl⟩
      exact ⟨by rw [← h.out]; rfl, 0, rfl⟩
    · refine (Try.slices_ContainsFunc_f85 (α := Int) (Value.int .i64) (fun z => !(labelB z)) _ _ (enters_of Try.func86 (by kernel_rfl) rfl) b off zs.length c zs _ (labels_at _) (Nat.le_refl _) (by omega) (cell_bang hc)).mono ?_
      rintro e w' ⟨rfl, q, rfl⟩
      refine ⟨?_, _, rfl⟩
      rw [List.take_length, any_lab, h.out])
  clear hr h
  go_enter Try.func50, Try.ntmps50
  go_wp2_with fail
  refine HC.out.mono ?_
  rintro e w' ⟨rfl, q, rfl⟩
  cases ok
  all_goals (go_wp2_with fail; go_ret; exact ⟨rfl, _, rfl⟩)
set_option maxRecDepth 100000 in
set_option maxHeartbeats 8000000 in
theorem impl_class (a : Option Addr) (rows : List (List Int)) (c : Nat) (w : World) (hr : grid.Reads w a rows) (hn : rows.length ≤ 1048576) (hm : ∀ r ∈ rows, r.length ≤ 1048576) (ok : Bool) (h : Hid (classB rows = ok)) :
    Calls Try.prog 18 #[.slice a rows.length c] w (fun e w' => e = .returned (.bool ok) ∧ ∃ m, w' = w.drewN m) := by
  have HM := Lib.hid hm
  clear hm
  by_cases hz : rows.length < 1
  · have e : ok = false := by rw [← h.out]; unfold classB; rw [decide_eq_false (by omega : ¬ 1 ≤ rows.length)]; rfl
    have g1 : decide ((rows.length : Int) < 1) = true := decide_eq_true (by omega)
    clear h hr hz
    subst e
    go_enter Try.func18, Try.ntmps18
    go_wp2_with fail
    go_ret
    exact ⟨rfl, 0, rfl⟩
  have g1 : decide ((rows.length : Int) < 1) = false := decide_eq_false (by omega)
  by_cases hb : 256 < rows.length
  · have e : ok = false := by rw [← h.out]; unfold classB; rw [decide_eq_false (by omega : ¬ rows.length ≤ 256), Bool.and_false, Bool.false_and]
    have g2 : decide ((256 : Int) < (rows.length : Int)) = true := decide_eq_true (by omega)
    clear h hr hz hb
    subst e
    go_enter Try.func18, Try.ntmps18
    go_wp2_with fail
    go_ret
    exact ⟨rfl, 0, rfl⟩
  have g2 : decide ((256 : Int) < (rows.length : Int)) = false := decide_eq_false (by omega)
  obtain ⟨b0, off0, p0, q0, rfl, hb0, hc0, hpq0, hrow0⟩ := hr.at (k := 0) (by omega)
  rw [Nat.add_zero] at hc0
  have hml0 : (rows.getD 0 []).length ≤ 1048576 := HM.out _ (getD_mem rows [] 0 (by omega))
  have i3 : (0 : Int) < (rows.length : Int) := by omega
  have i4 : 0 < rows.length := by omega
  by_cases h8 : 8 < (rows.getD 0 []).length
  · have e : ok = false := by
      rw [← h.out]; refine class_no (hyps_no 0 (by omega) ?_)
      unfold hypB
      rw [decide_eq_false (by omega : ¬ (rows.getD 0 []).length ≤ 8)]; rfl
    clear h hr hz hb hrow0 hpq0
    subst e
    generalize rows.getD 0 [] = r0 at *
    have g3 : decide ((8 : Int) < (r0.length : Int)) = true := decide_eq_true (by omega)
    clear h8
    go_enter Try.func18, Try.ntmps18
    go_wp2_with fail
    go_ret
    exact ⟨rfl, 0, rfl⟩
  obtain ⟨n0, hn0⟩ : ∃ n0, (rows.getD 0 []).length = n0 := ⟨_, rfl⟩
  have HL0 := Lib.hid hn0
  have g3 : decide ((8 : Int) < (n0 : Int)) = false := decide_eq_false (by omega)
  rw [hn0] at hc0 hpq0
  have hn8 : n0 ≤ 8 := by omega
  have H256 := Lib.hid (show 1 ≤ rows.length ∧ rows.length ≤ 256 from by omega)
  have HLB := Lib.hid (fun p zs c wa hr hn ok h => impl_labels p zs c wa hr hn ok h)
  have HCM := Lib.hid (fun (x y : List Int) (p1 p2 : Option Addr) (c1 c2 : Nat) (wa : World) h1 h2 h3 h4 => lists_any p1 x c1 p2 y c2 wa h1 h2 h3 h4)
  clear hn0 h8 hz hb hrow0
  go_enter Try.func18, Try.ntmps18
  go_wp2_with fail
  go_loopw [22] (fun i wr => ∃ k : Nat, k ≤ rows.length ∧ i = .int .i64 k ∧ Hid (∀ j, j < k → hypB rows j = true) ∧ ∃ m, wr = w.drewN m) (fun i _ => rows.length - (intOf i).toNat)
  case atStart => exact ⟨0, Nat.zero_le _, rfl, fun j hj => by omega, 0, rfl⟩
  case round =>
    obtain ⟨k, hk, rfl, hj, m, rfl⟩ := hrel
    have hrr : grid.Reads (w.drewN m) (some ⟨b0, off0, none⟩) rows := hr
    have hc0' : (w.drewN m).cell? ⟨b0, off0, none⟩ = some (.slice p0 n0 q0) := hc0
    clear g1 g2 g3
    generalize hwr : w.drewN m = wr at *
    have HWR := Lib.hid hwr
    clear hwr
    by_cases hlt : k < rows.length
    · obtain ⟨b, off, p, q, e0, hb, hc, hpq, hrow⟩ := hrr.at hlt
      cases e0
      have hml : (rows.getD k []).length ≤ 1048576 := HM.out _ (getD_mem rows [] k hlt)
      have HN := Lib.hid (show hypB rows k = false → ok = false from fun hx => by rw [← h.out]; exact class_no (hyps_no k hlt hx))
      have i1 : (0 : Int) ≤ (k : Int) := by omega
      have i2 : (k : Int) < (rows.length : Int) := by omega
      by_cases h1 : (rows.getD k []).length = n0
      · have g0 : (((rows.getD k []).length : Int) != (n0 : Int)) = false := by rw [bne_eq_false_iff_eq]; omega
        have H1 := Lib.hid (show (decide ((rows.getD k []).length ≤ 8) && decide ((rows.getD k []).length = (rows.getD 0 []).length)) = true from by rw [HL0.out, h1]; simp [hn8])
        cases h2 : labelsB (rows.getD k [])
        · have e : ok = false := HN.out (by unfold hypB; rw [h2, Bool.and_false, Bool.false_and])
          have HC := Lib.hid (HLB.out p (rows.getD k []) q wr hrow hml false (Lib.hid h2))
          clear h hj h2 HN hrr hrow hpq H1 HLB HCM h1
          subst e
          generalize rows.getD k [] = r at *
          go_wp2_with fail
          refine HC.out.mono ?_
          rintro e w' ⟨rfl, q, rfl⟩
          go_wp2_with fail
          go_ret
          exact ⟨rfl, _, by rw [← HWR.out, World.drewN_drewN]⟩
        · have HC := Lib.hid (HLB.out p (rows.getD k []) q wr hrow hml true (Lib.hid h2))
          cases k with
          | zero =>
            have HJ : Hid (∀ j, j < 0 + 1 → hypB rows j = true) := fun j h => by rw [show j = 0 by omega]; unfold hypB; rw [H1.out, h2]; rfl
            rw [Nat.add_zero] at hc
            clear hj h2 HN hrr hrow hpq H1 HLB HCM h1 hc0' g0 HL0 hpq0 hc0
            generalize rows.getD 0 [] = r at *
            have g0 : ((r.length : Int) != (r.length : Int)) = false := by simp
            go_wp2_with fail
            refine HC.out.mono ?_
            rintro e w' ⟨rfl, q, rfl⟩
            go_wp2_with fail
            go_roundw
            case rel => exact ⟨1, by omega, by go_num, HJ, _, by rw [← HWR.out, World.drewN_drewN]⟩
            case measure => simp [intOf]; omega
          | succ k =>
            obtain ⟨b1, off1, p1, q1, e1, hb1, hc1, hpq1, hrow1⟩ := hrr.at (k := k) (by omega)
            cases e1
            have hml1 : (rows.getD k []).length ≤ 1048576 := HM.out _ (getD_mem rows [] k (by omega))
            have i5 : (k : Int) + 1 < (rows.length : Int) := by omega
            have i6 : (k : Int) < (rows.length : Int) := by omega
            have i7 : (0 : Int) ≤ (k : Int) := by omega
            have g2 : decide ((0 : Int) < (k : Int) + 1) = true := decide_eq_true (by omega)
            have HF := Lib.hid (fun (n : Nat) => HCM.out (rows.getD k []) (rows.getD (k + 1) []) p1 p q1 q (wr.drewN n) hrow1 hrow hml1 hml)
            cases h3 : befC (rows.getD k []) (rows.getD (k + 1) [])
            · have e : ok = false := HN.out (by unfold hypB; rw [show k + 1 - 1 = k by omega, h3, decide_eq_false (by omega : ¬ k + 1 = 0), Bool.or_false, Bool.and_false])
              have g4 : decide ((0 : Int) ≤ lexC (rows.getD k []) (rows.getD (k + 1) [])) = true := decide_eq_true (by unfold befC at h3; rw [decide_eq_false_iff_not] at h3; omega)
              clear h hj h2 h3 HN hrr hrow hpq hrow1 hpq1 H1 HLB HCM h1
              subst e
              generalize lexC (rows.getD k []) (rows.getD (k + 1) []) = lx at *
              generalize rows.getD (k + 1) [] = r at *
              generalize rows.getD k [] = r1 at *
              go_wp2_with fail
              refine HC.out.mono ?_
              rintro e w' ⟨rfl, q, rfl⟩
              go_wp2_with fail
              refine (HF.out _).mono ?_
              rintro e w' ⟨rfl, rfl⟩
              go_wp2_with fail
              go_ret
              exact ⟨rfl, _, by rw [← HWR.out, World.drewN_drewN]⟩
            · have HJ : Hid (∀ j, j < k + 1 + 1 → hypB rows j = true) := fun j h => by
                by_cases e : j = k + 1
                · rw [e]; unfold hypB; rw [H1.out, h2, show k + 1 - 1 = k by omega, h3, Bool.or_true]; rfl
                · exact hj.out j (by omega)
              have g4 : decide ((0 : Int) ≤ lexC (rows.getD k []) (rows.getD (k + 1) [])) = false := decide_eq_false (by rw [befC_iff] at h3; omega)
              clear hj h2 h3 HN hrr hrow hpq hrow1 hpq1 H1 HLB HCM h1
              generalize lexC (rows.getD k []) (rows.getD (k + 1) []) = lx at *
              generalize rows.getD (k + 1) [] = r at *
              generalize rows.getD k [] = r1 at *
              go_wp2_with fail
              refine HC.out.mono ?_
              rintro e w' ⟨rfl, q, rfl⟩
              go_wp2_with fail
              refine (HF.out _).mono ?_
              rintro e w' ⟨rfl, rfl⟩
              go_wp2_with fail
              go_roundw
              case rel => exact ⟨k + 1 + 1, by omega, by go_num, HJ, _, by rw [← HWR.out, World.drewN_drewN]⟩
              case measure => simp [intOf]; omega
      · have g0 : (((rows.getD k []).length : Int) != (n0 : Int)) = true := by rw [bne_iff_ne]; omega
        have e : ok = false := HN.out (by unfold hypB; rw [HL0.out, decide_eq_false h1, Bool.and_false, Bool.false_and, Bool.false_and])
        clear h hj HN hrr hrow hpq HLB HCM h1
        subst e
        generalize rows.getD k [] = r at *
        go_wp2_with fail
        go_ret
        exact ⟨rfl, _, HWR.out.symm⟩
    · obtain rfl : k = rows.length := by omega
      have e : ok = true := by
        rw [← h.out]; exact (class_iff rows).2 ⟨H256.out.1, H256.out.2, hyps_all hj.out⟩
      clear h hj hrr
      subst e
      go_wp2_with fail
      go_ret
      exact ⟨rfl, _, HWR.out.symm⟩
theorem impl_IsClass (a : Option Addr) (rows : List (List Int)) (c : Nat) (w : World) (hr : grid.Reads w a rows) (hn : rows.length ≤ 1048576) (hm : ∀ r ∈ rows, r.length ≤ 1048576) (ok : Bool) (h : Hid (classB rows = ok)) :
    Calls Try.prog 18 #[.slice a rows.length c] w (RetB ok w) :=
  (impl_class a rows c w hr hn hm ok h).mono fun e w' ⟨he, m, hw⟩ => ⟨he, by rw [hw]; exact ints.below_drewN (Below.refl _ _) _⟩
end Go.Proofs.Ytncidajjeccbkaa.classi
