/- The walks of IntervalClass: the model's and the program's. -/
import Derived.Test.YtncidajjeccbkaaLabL
import Derived.Test.YtncidajjeccbkaaDelF
import Derived.Test.YtncidajjeccbkaaSauer
import Derived.Test.YtncidajjeccbkaaRets
import Derived.Deep.AppendLies
namespace Go.Proofs.Ytncidajjeccbkaa.intv
open Go.RowKit own pp nums bitn setcmp setord cls tracep setsn labw delf
set_option linter.unusedVariables false
set_option linter.unusedSimpArgs false

/-- Some of the rows. -/
theorem rows_sel {lo hi : Nat} {w : World} {cs : List Value} {rows : List (List Int)} (h : RowsOf lo hi w cs rows) (sel : List Nat) (hn : sel.Nodup) (hs : ∀ k ∈ sel, k < rows.length) : RowsOf lo hi w (sel.map fun k => cs.getD k undef) (sel.map fun k => rows.getD k []) := by
  have hgd : ∀ {α : Type} (f : Nat → α) (d : α) (i : Nat) (hi : i < sel.length), (sel.map f).getD i d = f sel[i] := fun f d i hi => by
    rw [List.getD_eq_getElem?_getD, List.getElem?_map, List.getElem?_eq_getElem hi]; rfl
  refine ⟨by simp, fun i hi => ?_, fun i j hij hj g hg => ?_⟩
  · have hi' : i < sel.length := by simpa using hi
    rw [hgd _ _ i hi', hgd _ _ i hi']
    exact h.2.1 _ (hs _ (List.getElem_mem hi'))
  · have hj' : j < sel.length := by simpa using hj
    rw [hgd _ _ i (by omega)] at hg
    rw [hgd _ _ j hj']
    have hne : sel[i] ≠ sel[j] := List.pairwise_iff_getElem.1 hn i j (by omega) hj' hij
    intro hg2
    rcases Nat.lt_or_gt_of_ne hne with hl | hl
    · exact h.2.2 _ _ hl (hs _ (List.getElem_mem hj')) g hg hg2
    · exact h.2.2 _ _ hl (hs _ (List.getElem_mem (show i < sel.length by omega))) g hg2 hg
/-- A row of a list of a call's own. -/
theorem own_cell {lo hi : Nat} {w : World} {g n cap : Nat} {rows : List (List Int)} {cs : List Value} (h : OwnC lo hi w (.slice (some ⟨g, 0, none⟩) n cap) rows cs) (hn : n = rows.length) {k : Nat} (hk : k < rows.length) : ∃ p c, cs.getD k undef = .slice p (rows.getD k []).length c ∧ w.cell? ⟨g, k, none⟩ = some (.slice p (rows.getD k []).length c) ∧ OwnI lo hi w (.slice p (rows.getD k []).length c) (rows.getD k []) := by
  subst hn
  obtain ⟨h1, h2, hl, ho, hd⟩ := h
  obtain ⟨p, c, hv, hr, hc, _⟩ := (ho k hk).slice
  have hx := h1.cellAt k (by omega)
  have e2 : cs[k]? = some (cs.getD k undef) := by rw [List.getD_eq_getElem?_getD, List.getElem?_eq_getElem (by omega)]; rfl
  rw [e2, hv] at hx
  have h3 := ho k hk
  rw [hv] at h3
  exact ⟨p, c, hv, hx, h3⟩
def labTo (m code k : Nat) : List Int := (List.range k).map fun i => 2 * ((dg code (m - 1 - i) : Nat) : Int) - 1
theorem labTo_succ (m code k : Nat) : labTo m code (k + 1) = labTo m code k ++ [2 * ((dg code (m - 1 - k) : Nat) : Int) - 1] := by unfold labTo; rw [List.range_succ, List.map_append]; rfl
theorem labTo_length (m code k : Nat) : (labTo m code k).length = k := by simp [labTo]
def listsTo (m k : Nat) : List (List Int) := (List.range k).map (labL m)
theorem listsTo_succ (m k : Nat) : listsTo m (k + 1) = listsTo m k ++ [labL m k] := by unfold listsTo; rw [List.range_succ, List.map_append]; rfl
theorem listsTo_length (m k : Nat) : (listsTo m k).length = k := by simp [listsTo]
set_option maxRecDepth 100000 in
set_option maxHeartbeats 4000000 in
theorem spec_lists (m : Nat) (w : World) (h8 : m ≤ 8) :
    Calls Try.prog 53 #[.int .i64 m] w (MadeG (allL m) w) := by
  obtain ⟨i0, hi, hz0, hz1, hz2⟩ := info_parts setsn.infoSl
  obtain ⟨j0, hjI, hy0, hy1, hy2⟩ := info_parts mk.infoInt
  have hp12 := bits8.pow8 h8
  have HPW := Lib.hid (show ((2 : Int) ^ m) = ((2 ^ m : Nat) : Int) from by simp)
  have HLS := Lib.hid (fun k => listsTo_succ m k)
  have HLL := Lib.hid (fun k => listsTo_length m k)
  have HAA := Lib.hid (show listsTo m (2 ^ m) = allL m from rfl)
  rw [← HAA.out]
  obtain ⟨N, hN⟩ : ∃ N : Nat, 2 ^ m = N := ⟨_, rfl⟩
  rw [hN] at hp12 HPW ⊢
  clear hN HAA
  have HL0 := Lib.hid (show listsTo m 0 = [] from rfl)
  go_enter Try.func53, Try.ntmps53
  go_wp2_with fail
  have hown0 := World.ownsRow_made (base := w.heap.size) (e := 30) (size := 1) w #[] 0 (Nat.le_refl _) (by unfold maxLen; omega) rfl
  have hb0 := below_alloc w (.cells #[] 30)
  go_loopw [3, 4] (fun v z wr => ∃ (code : Nat) (pp : Option Addr) (cp : Nat) (cs : List Value), code ≤ N ∧ z = .int .i64 code ∧ v = .slice pp (listsTo m code).length cp ∧ wr.ownsRow w.heap.size 30 1 (.slice pp (listsTo m code).length cp) (listsTo m code).length cs ∧ RowsOf w.heap.size wr.heap.size wr cs (listsTo m code) ∧ Below w.heap.size w wr) (fun _ z _ => N - (intOf z).toNat)
  case atStart => exact ⟨0, _, 0, [], Nat.zero_le _, rfl, by rw [HL0.out]; rfl, by rw [HL0.out]; exact hown0, by rw [HL0.out]; exact RowsOf.nil _ _ _, hb0⟩
  case round =>
    obtain ⟨code, pp, cp, cs, hk, rfl, rfl, hown, hro, hbel⟩ := hrel
    clear hown0 hb0
    have HPs : (2 : Int) ^ m = (N : Int) := HPW.out
    by_cases hlt : code < N
    · have i2 : (code : Int) < (N : Int) := by omega
      have HO := Lib.hid hown
      have HRO := Lib.hid hro
      have HBl := Lib.hid hbel
      have hsz := hbel.size
      have hll : (listsTo m code).length ≤ 256 := by rw [HLL.out]; omega
      have HM := Lib.hid (HLS.out code)
      clear hown hro hbel
      generalize listsTo m code = R at *
      go_wp2_with fail
      obtain ⟨w5, hw5⟩ : ∃ w5 : World, w5 = wr := ⟨_, rfl⟩
      subst hw5
      have hown1 := (own_empty w5).1
      have hb1 := below_alloc w5 (.cells #[] 3)
      clear HPs
      go_loopw [5, 6] (fun v z wr => ∃ (k : Nat), k ≤ m ∧ z = .int .i64 k ∧ wr.ownsRow w5.heap.size 3 1 v (labTo m code k).length ((labTo m code k).map (Value.int .i64)) ∧ Below w5.heap.size w5 wr) (fun _ z _ => m - (intOf z).toNat)
      case atStart => exact ⟨0, Nat.zero_le _, rfl, hown1, hb1⟩
      case round =>
        obtain ⟨k, hkm, rfl, hown, hbel⟩ := hrel
        have HV := Lib.hid hown.lt
        have HB5 := Lib.hid hbel
        have hsz5 := hbel.size
        clear hown1 hb1
        by_cases hlt5 : k < m
        · have HO5 := Lib.hid hown
          have hlen := labTo_length m code k
          obtain ⟨j, hj⟩ : ∃ j : Nat, m - 1 - k = j := ⟨_, rfl⟩
          have hmin : min j 64 = j := by omega
          have hbit := dg_at code j (by omega)
          have e2 : IntKind.i64.wrap ((m : Int) - 1) = (m : Int) - 1 := IntWalk.i64_in _ (by omega)
          have e3 : IntKind.i64.wrap ((m : Int) - 1 - k) = (j : Int) := by rw [IntWalk.i64_in _ (by omega)]; omega
          have i3 : (k : Int) < (m : Int) := by omega
          have hs7 := labTo_succ m code k
          rw [hj] at hs7
          have HM5 := Lib.hid hs7
          have hd := dg_le code j
          have e4 : IntKind.i64.wrap (2 * ((dg code j : Nat) : Int)) = 2 * ((dg code j : Nat) : Int) := IntWalk.i64_in _ (by omega)
          have e5 : IntKind.i64.wrap (2 * ((dg code j : Nat) : Int) - 1) = 2 * ((dg code j : Nat) : Int) - 1 := IntWalk.i64_in _ (by omega)
          clear hown hbel hj hs7
          generalize dg code j = d at *
          generalize labTo m code k = ms at *
          go_wp2_with (at_builtin; refine wpList_append_own _ rfl _ _ 30 rfl w5.heap.size 3 j0 (.int .i64 0) 1 8 Try.underlying30 hjI hy0 hy1 hy2 rfl (by decide) _ _ _ rfl (HO5.out.alloc _) ⟨wr.heap.size, 0, none⟩ 1 1 [.int .i64 (2 * (d : Int) - 1)] rfl rfl (cell_one_new _ _ _) (by simp [Value.oneCell']) (by unfold maxLen; omega) (by omega) (by simp; omega) ?_; intro v' w2 hown' hgrow _)
          obtain ⟨g', cap', hv'⟩ := ownsRow_succ hown'
          subst hv'
          have HO2 := Lib.hid hown'
          have HB2 := Lib.hid ((HB5.out.alloc hsz5 _).grown hgrow (by simp; omega) (fun g e => (HV.out g e).1))
          clear hown' hgrow
          go_wp2_with fail
          go_roundw
          case rel => exact ⟨k + 1, by omega, by go_num, by rw [HM5.out, List.map_append, List.length_append]; exact HO2.out, HB2.out⟩
          case measure => simp [intOf]; omega
        · obtain rfl : k = m := by omega
          have hcd : labTo k code k = labL k code := rfl
          rw [hcd] at hown
          have hlen := lab_length k code
          have hos := OwnI.of hown
          obtain ⟨sa, sc, hvs, _, _, _⟩ := hos.slice
          subst hvs
          have HOS := Lib.hid hos
          have HO6 := Lib.hid (ownsRow_block HO.out (fun g e => HB5.out.block g (HO.out.lt g e).2))
          have HR6 := Lib.hid (HRO.out.below HB5.out)
          have HB6 := Lib.hid (HBl.out.trans (HB5.out.mono hsz))
          have HV6 := Lib.hid HO6.out.lt
          clear hown hbel hos HO HRO HBl hcd hlen
          generalize labL k code = s at *
          have hw6 : w.heap.size ≤ wr.heap.size := by omega
          go_wp2_with (at_builtin; refine wpList_append_lies _ rfl _ _ 22 rfl w.heap.size 30 i0 (.slice none 0 0) 1 24 Try.underlying22 hi hz0 hz1 hz2 rfl (by decide) (.slice pp R.length cp) R.length cs rfl (HO6.out.alloc _) ⟨wr.heap.size, 0, none⟩ 1 1 [.slice sa s.length sc] rfl rfl (cell_one_new _ _ _) (by simp [Value.oneCell']) (by omega) (by unfold maxLen; omega) (by omega) (by simp; omega) _ rfl ?_; intro gg cap w7 hown' hgrow hat _)
          have HR7 := Lib.hid (pushR HO6.out HR6.out HOS.out (by omega) hsz5 hgrow)
          have HB7 := Lib.hid ((HB6.out.alloc hw6 _).grown hgrow (by simp; omega) (fun g e => (HV6.out g e).1))
          have HO7 := Lib.hid hown'
          clear hown' hgrow hat
          go_wp2_with fail
          go_roundw
          case rel =>
            refine ⟨code + 1, some ⟨gg, 0, none⟩, cap, cs ++ [.slice sa s.length sc], by omega, by go_num, ?_, ?_, ?_, HB7.out⟩
            · rw [HM.out, List.length_append]; rfl
            · rw [HM.out, List.length_append]; exact HO7.out
            · rw [HM.out]; exact HR7.out
          case measure => simp [intOf]; omega
    · obtain rfl : code = N := by omega
      have HF := Lib.hid (show MadeG (listsTo m code) w (.returned (.slice pp (listsTo m code).length cp)) wr from ⟨_, rfl, ⟨cs, hown, fun g e => (hown.lt g e).2, hro⟩, hbel⟩)
      clear hown hro hbel
      go_wp2_with fail
      go_ret
      exact HF.out
/-- How often a label 1 begins among the first k labels. -/
def stTo (l : List Int) : Nat → Nat
  | 0 => 0
  | k + 1 => stTo l k + if l.getD k 0 = 1 ∧ (k = 0 ∨ l.getD (k - 1) 0 = -1) then 1 else 0
theorem st_le (l : List Int) : ∀ k, stTo l k ≤ k
  | 0 => Nat.le_refl _
  | k + 1 => by
    have := st_le l k
    rw [stTo]
    split <;> omega
def intB (l : List Int) : Bool := decide (stTo l l.length ≤ 1)
/-- The label ahead of a place. -/
def lastL (l : List Int) : Nat → Int
  | 0 => -1
  | k + 1 => l.getD k 0
theorem last_pm {l : List Int} (h : Lab l) : ∀ k, k ≤ l.length → lastL l k = 1 ∨ lastL l k = -1
  | 0, _ => .inr rfl
  | k + 1, hk => h k (by omega)
theorem st_step {l : List Int} (h : Lab l) {k : Nat} (hk : k < l.length) : stTo l (k + 1) = stTo l k + if lastL l k < l.getD k 0 then 1 else 0 := by
  rw [stTo]
  congr 1
  have h1 := h k hk
  have h2 := last_pm h k (by omega)
  cases k with
  | zero =>
    show (if _ ∧ (_ ∨ _) then 1 else 0) = (if (-1 : Int) < _ then 1 else 0)
    rcases h1 with e | e <;> rw [e] <;> simp
  | succ k =>
    have e2 : lastL l (k + 1) = l.getD k 0 := rfl
    rw [e2] at h2 ⊢
    rw [Nat.add_sub_cancel]
    rcases h1 with e | e <;> rcases h2 with e3 | e3 <;> rw [e, e3] <;> simp
set_option maxRecDepth 100000 in
set_option maxHeartbeats 4000000 in
theorem spec_interval (a : Option Addr) (l : List Int) (c : Nat) (w : World) (hr : ints.Reads .i64 w a l) (h8 : l.length ≤ 8) :
    Calls Try.prog 54 #[.slice a l.length c] w ((fun e w' => e = .returned (.bool (intB l)) ∧ Below w.heap.size w w')) := by
  have HI := Lib.hid (show intB l = decide (stTo l l.length ≤ 1) from rfl)
  rw [HI.out]
  clear HI
  go_enter Try.func54, Try.ntmps54
  go_wp2_with fail
  go_loop [3, 4] (fun v z => ∃ k : Nat, k ≤ l.length ∧ z = .int .i64 k ∧ v = .int .i64 ((stTo l k : Nat) : Int)) (fun _ z => l.length - (intOf z).toNat)
  case atStart => exact ⟨0, Nat.zero_le _, rfl, rfl⟩
  case round =>
    obtain ⟨k, hk, rfl, rfl⟩ := hrel
    have hle := st_le l k
    by_cases hlt : k < l.length
    · obtain ⟨b, off, rfl, hb, hc⟩ := hr.at hlt
      have i1 : (0 : Int) ≤ (k : Int) := by omega
      have i2 : (k : Int) < (l.length : Int) := by omega
      have HS := Lib.hid (show stTo l (k + 1) = stTo l k + if l.getD k 0 = 1 ∧ (k = 0 ∨ l.getD (k - 1) 0 = -1) then 1 else 0 from rfl)
      by_cases h1 : l.getD k 0 = 1
      · cases k with
        | zero =>
          have HM := Lib.hid (show stTo l (0 + 1) = stTo l 0 + 1 from by rw [HS.out, if_pos ⟨h1, .inl rfl⟩])
          have g0 : (l.getD 0 0 == 1) = true := by rw [beq_iff_eq]; exact h1
          rw [Nat.add_zero] at hc
          clear h1 HS hr
          generalize l.getD 0 0 = x at *
          generalize stTo l 0 = s at *
          go_wp2_with fail
          go_round
          case rel => exact ⟨1, by omega, by go_num, by rw [HM.out]; go_num⟩
          case measure => simp [intOf]; omega
        | succ k =>
          obtain ⟨b', off', e', hb', hc'⟩ := hr.at (k := k) (by omega)
          cases e'
          have g0 : (l.getD (k + 1) 0 == 1) = true := by rw [beq_iff_eq]; exact h1
          have g1 : ((k : Int) + 1 == 0) = false := by rw [beq_eq_false_iff_ne]; omega
          have iw : IntKind.i64.wrap (k : Int) = (k : Int) := IntWalk.i64_in _ (by omega)
          have i3 : (k : Int) < (l.length : Int) := by omega
          have i4 : (0 : Int) ≤ (k : Int) := by omega
          have i5 : (k : Int) + 1 < (l.length : Int) := by omega
          have i6 : (0 : Int) ≤ (k : Int) + 1 := by omega
          by_cases h2 : l.getD k 0 = -1
          · have HM := Lib.hid (show stTo l (k + 1 + 1) = stTo l (k + 1) + 1 from by rw [HS.out, if_pos ⟨h1, .inr (by rw [Nat.add_sub_cancel]; exact h2)⟩])
            have g2 : (l.getD k 0 == -1) = true := by rw [beq_iff_eq]; exact h2
            clear h1 h2 HS hr
            generalize l.getD (k + 1) 0 = x at *
            generalize l.getD k 0 = y at *
            generalize stTo l (k + 1) = s at *
            go_wp2_with fail
            go_round
            case rel => exact ⟨k + 1 + 1, by omega, by go_num, by rw [HM.out]; go_num⟩
            case measure => simp [intOf]; omega
          · have HM := Lib.hid (show stTo l (k + 1 + 1) = stTo l (k + 1) from by rw [HS.out, if_neg (by rintro ⟨_, h | h⟩; omega; rw [Nat.add_sub_cancel] at h; exact h2 h), Nat.add_zero])
            have g2 : (l.getD k 0 == -1) = false := by rw [beq_eq_false_iff_ne]; exact h2
            clear h1 h2 HS hr
            generalize l.getD (k + 1) 0 = x at *
            generalize l.getD k 0 = y at *
            generalize stTo l (k + 1) = s at *
            go_wp2_with fail
            go_round
            case rel => exact ⟨k + 1 + 1, by omega, by go_num, by rw [HM.out]⟩
            case measure => simp [intOf]; omega
      · have HM := Lib.hid (show stTo l (k + 1) = stTo l k from by rw [HS.out, if_neg (fun h => h1 h.1), Nat.add_zero])
        have g0 : (l.getD k 0 == 1) = false := by rw [beq_eq_false_iff_ne]; exact h1
        clear h1 HS hr
        generalize l.getD k 0 = x at *
        generalize stTo l k = s at *
        go_wp2_with fail
        go_round
        case rel => exact ⟨k + 1, by omega, by go_num, by rw [HM.out]⟩
        case measure => simp [intOf]; omega
    · obtain rfl : k = l.length := by omega
      have g0 : decide (((stTo l l.length : Nat) : Int) ≤ 1) = decide (stTo l l.length ≤ 1) := by rw [decide_eq_decide]; omega
      have HG := Lib.hid g0
      generalize ((stTo l l.length : Nat) : Int) = s at *
      go_wp2_with fail
      go_ret
      exact ⟨by rw [← HG.out]; rfl, Below.refl _ _⟩
set_option maxRecDepth 100000 in
set_option maxHeartbeats 4000000 in
theorem impl_gap (hv : Value) (a : Option Addr) (l : List Int) (c : Nat) (w : World) (he : hv = .slice a l.length c) (hr : ints.Reads .i64 w a l) (h8 : l.length ≤ 8) (hL : Lab l) (ok : Bool) (hok : intB l = ok) :
    Calls Try.prog 58 #[hv] w ((fun e w' => e = .returned (.bool (!ok)) ∧ Below w.heap.size w w')) := by
  subst he
  subst hok
  have HLS := Lib.hid (fun k (h : k < l.length) => st_step hL h)
  have HLP := Lib.hid (fun k (h : k ≤ l.length) => last_pm hL k h)
  have HLL := Lib.hid (fun k => show lastL l (k + 1) = l.getD k 0 from rfl)
  have HIB := Lib.hid (show intB l = decide (stTo l l.length ≤ 1) from rfl)
  clear hL
  go_enter Try.func58, Try.ntmps58
  go_wp2_with fail
  go_loop [3, 4, 9] (fun v x z => ∃ k : Nat, k ≤ l.length ∧ z = .int .i64 k ∧ v = .int .i64 ((stTo l k : Nat) : Int) ∧ x = .int .i64 (lastL l k)) (fun _ _ z => l.length - (intOf z).toNat)
  case atStart => exact ⟨0, Nat.zero_le _, rfl, rfl, rfl⟩
  case round =>
    obtain ⟨k, hk, rfl, rfl, rfl⟩ := hrel
    have hle := st_le l k
    by_cases hlt : k < l.length
    · obtain ⟨b, off, rfl, hb, hc⟩ := hr.at hlt
      have i1 : (0 : Int) ≤ (k : Int) := by omega
      have i2 : (k : Int) < (l.length : Int) := by omega
      have HS := Lib.hid (HLS.out k hlt)
      have HN := Lib.hid (HLL.out k)
      by_cases h1 : lastL l k < l.getD k 0
      · have HM := Lib.hid (show stTo l (k + 1) = stTo l k + 1 from by rw [HS.out, if_pos h1])
        have g0 : decide (lastL l k < l.getD k 0) = true := decide_eq_true h1
        clear h1 HS hr
        generalize l.getD k 0 = x at *
        generalize lastL l k = y at *
        generalize stTo l k = s at *
        go_wp2_with fail
        go_round
        case rel => exact ⟨k + 1, by omega, by go_num, by rw [HM.out]; go_num, by rw [HN.out]⟩
        case measure => simp [intOf]; omega
      · have HM := Lib.hid (show stTo l (k + 1) = stTo l k from by rw [HS.out, if_neg h1, Nat.add_zero])
        have g0 : decide (lastL l k < l.getD k 0) = false := decide_eq_false h1
        clear h1 HS hr
        generalize l.getD k 0 = x at *
        generalize lastL l k = y at *
        generalize stTo l k = s at *
        go_wp2_with fail
        go_round
        case rel => exact ⟨k + 1, by omega, by go_num, by rw [HM.out], by rw [HN.out]⟩
        case measure => simp [intOf]; omega
    · obtain rfl : k = l.length := by omega
      have HG := Lib.hid (show decide ((1 : Int) < ((stTo l l.length : Nat) : Int)) = !(intB l) from by
        rw [HIB.out]
        by_cases h : stTo l l.length ≤ 1
        · rw [decide_eq_true h]; exact decide_eq_false (by omega)
        · rw [decide_eq_false h]; exact decide_eq_true (by omega))
      generalize ((stTo l l.length : Nat) : Int) = s at *
      generalize lastL l l.length = y at *
      go_wp2_with fail
      go_ret
      exact ⟨by rw [← HG.out]; rfl, Below.refl _ _⟩
/-- The lists of labels without a gap. -/
def ivB (m k : Nat) : Bool := intB ((allL m).getD k [])
def ivL (m : Nat) : List (List Int) := (selTo (ivB m) (2 ^ m)).map fun k => (allL m).getD k []
theorem tot_le (l : List (List Int)) (B : Nat) (h : ∀ r ∈ l, r.length ≤ B) : grid.tot l ≤ l.length * B := by
  induction l with
  | nil => simp [grid.tot]
  | cons x l ih =>
    have h1 := h x (by simp)
    have h2 := ih (fun r hr => h r (by simp [hr]))
    unfold grid.tot at *
    rw [List.map_cons, List.sum_cons, List.length_cons, Nat.succ_mul]; omega
theorem iv_size {m : Nat} (h8 : m ≤ 8) : (ivL m).length ≤ 256 ∧ grid.tot (ivL m) ≤ 2048 := by
  have hp := bits8.pow8 h8
  have h1 : (ivL m).length ≤ 256 := by
    unfold ivL
    rw [List.length_map]
    have := sel_length (ivB m) (2 ^ m)
    omega
  have h2 := tot_le (ivL m) 8 (fun r hr => by
    unfold ivL at hr
    obtain ⟨k, hk, rfl⟩ := List.mem_map.1 hr
    rw [allL_getD _ _ (sel_lt hk), lab_length]; exact h8)
  omega
theorem all8 {m k : Nat} (h8 : m ≤ 8) (hk : k < (allL m).length) : Lab ((allL m).getD k []) ∧ ((allL m).getD k []).length ≤ 8 := by
  rw [allL_length] at hk
  rw [allL_getD _ _ hk, lab_length]
  exact ⟨lab_Lab h8 hk, h8⟩
set_option maxRecDepth 100000 in
set_option maxHeartbeats 4000000 in
theorem spec_no (n : Int) (w : World) (h : (decide (0 ≤ n) && decide (n ≤ 8)) = false) :
    Calls Try.prog 20 #[.int .i64 n] w (RetGB [] false w) := by
  have H1 := Lib.hid h
  clear h
  go_enter Try.func20, Try.ntmps20
  go_wp2_with fail
  refine (nums.in_any _ _ _ _ false H1).mono ?_
  rintro e w' ⟨rfl, rfl⟩
  go_wp2_with fail
  go_ret2
  have hz9 := World.ownsRow_made (base := w.heap.size) (e := 30) (size := 1) w #[] 0 (Nat.le_refl _) (by unfold maxLen; omega) rfl
  exact ⟨_, rfl, ⟨[], hz9, fun g e => (hz9.lt g e).2, RowsOf.nil _ _ _⟩, below_alloc _ _⟩
set_option maxRecDepth 100000 in
set_option maxHeartbeats 4000000 in
theorem spec_yes (m : Nat) (w : World) (h8 : m ≤ 8) :
    Calls Try.prog 20 #[.int .i64 m] w (RetGB (ivL m) true w) := by
  obtain ⟨i0, hi, hz0, hz1, hz2⟩ := info_parts setsn.infoSl
  have H1 : Hid ((decide ((0 : Int) ≤ m) && decide ((m : Int) ≤ 8)) = true) := Lib.hid (by simp; omega)
  have HS := Lib.hid (fun (wa : World) => spec_lists m wa h8)
  have hp12 := bits8.pow8 h8
  have HAL := Lib.hid (allL_length m)
  have HSL := Lib.hid (show ivL m = (selTo (ivB m) (2 ^ m)).map (fun k => (allL m).getD k []) from rfl)
  have HSH := Lib.hid (fun (k : Nat) (hkk : k < (allL m).length) (sp : Option Addr) (sc : Nat) (wa : World) (hb : Below w.heap.size w wa) (hq : ints.Reads .i64 wa sp ((allL m).getD k [])) =>
    show Calls Try.prog 54 #[.slice sp ((allL m).getD k []).length sc] wa (fun e w' => e = .returned (.bool (ivB m k)) ∧ Below wa.heap.size wa w') from
    spec_interval sp ((allL m).getD k []) sc wa hq (all8 h8 hkk).2)
  rw [HSL.out]
  generalize ivB m = p at *
  generalize allL m = A at *
  generalize 2 ^ m = N at *
  clear HSL
  go_enter Try.func20, Try.ntmps20
  go_wp2_with fail
  obtain ⟨w1, hw1⟩ : ∃ w1 : World, w1 = w.alloc (.cells #[] 30) := ⟨_, rfl⟩
  have hown1 : w1.ownsRow w.heap.size 30 1 (.slice (some ⟨w.heap.size, 0, none⟩) 0 0) 0 [] := by rw [hw1]; exact World.ownsRow_made (base := w.heap.size) (e := 30) (size := 1) w #[] 0 (Nat.le_refl _) (by unfold maxLen; omega) rfl
  have hb1 : Below w.heap.size w w1 := by rw [hw1]; exact below_alloc w _
  have s1 : w.heap.size < w1.heap.size := by rw [hw1]; simp
  try rw [← hw1]
  clear hw1
  refine (nums.in_any _ _ _ _ true H1).mono ?_
  rintro e w' ⟨rfl, rfl⟩
  go_wp2_with fail
  refine (HS.out _).mono ?_
  rintro e w4 ⟨v, rfl, hol, hb4⟩
  obtain ⟨csl, hoc⟩ := hol
  have hN1 : 1 ≤ A.length := by rw [HAL.out]; exact hp12.1
  obtain ⟨gl, cl, hvl, hgl⟩ := own_form hoc.1 hN1
  subst hvl
  have s4 : w1.heap.size ≤ w4.heap.size := hb4.size
  have HB4 := Lib.hid (hb1.trans (hb4.mono (by omega)))
  have hown4 := ownsRow_block hown1 (fun g e => hb4.block g (hown1.lt g e).2)
  have HOC := Lib.hid hoc
  clear hb1 hb4 hown1 HS hoc hN1
  rw [HAL.out]
  go_wp2_with fail
  go_loopw [4, 6] (fun v z wr => ∃ (k : Nat) (pp : Option Addr) (cp : Nat), k ≤ N ∧ z = .int .i64 k ∧ v = .slice pp (selTo p k).length cp ∧ wr.ownsRow w.heap.size 30 1 (.slice pp (selTo p k).length cp) (selTo p k).length ((selTo p k).map fun j => csl.getD j undef) ∧ (∀ g, (Value.slice pp (selTo p k).length cp).ownBlock = some g → g < w1.heap.size ∨ w4.heap.size ≤ g) ∧ Below w.heap.size w wr ∧ w4.heap.size ≤ wr.heap.size ∧ OwnC w1.heap.size w4.heap.size wr (.slice (some ⟨gl, 0, none⟩) A.length cl) A csl) (fun _ z _ => N - (intOf z).toNat)
  case atStart => exact ⟨0, _, 0, Nat.zero_le _, rfl, rfl, hown4, fun g e => .inl (by have e2 : w.heap.size = g := (by simpa [Value.ownBlock] using e); omega), HB4.out, Nat.le_refl _, HOC.out⟩
  case round =>
    clear hown4
    obtain ⟨k, pp, cp, hk, rfl, rfl, hown, hat0, hbel, hszr, hoc⟩ := hrel
    have hsl := sel_length p k
    by_cases hlt : k < N
    · have hka : k < A.length := by rw [HAL.out]; exact hlt
      obtain ⟨sa, sc, hvs, hcl, hoi⟩ := own_cell hoc rfl hka
      have hgl9 : gl < wr.heap.size := (hoc.1.lt gl rfl).2
      have HF := Lib.hid (HSH.out k hka sa sc wr hbel hoi.reads)
      have HVS := Lib.hid hvs
      have HO := Lib.hid hown
      have HOCr := Lib.hid hoc
      have HAT := Lib.hid hat0
      have HBl := Lib.hid hbel
      have hw2r := hbel.size
      have i1 : (0 : Int) ≤ (k : Int) := by omega
      have i2 : (k : Int) < (N : Int) := by omega
      clear hown hat0 hbel hoc hvs hoi
      cases hp : p k
      · have HM := Lib.hid (sel_miss hp)
        rw [hp] at HF
        clear hp
        generalize (A.getD k []).length = sl at *
        generalize selTo p k = sel at *
        go_wp2_with fail
        refine HF.out.mono ?_
        rintro e w5 ⟨rfl, hb5⟩
        have HO5 := Lib.hid (ownsRow_block HO.out (fun g e => hb5.block g (HO.out.lt g e).2))
        have HOC5 := Lib.hid (show OwnC w1.heap.size w4.heap.size w5 (.slice (some ⟨gl, 0, none⟩) A.length cl) A csl from ⟨ownsRow_block HOCr.out.1 (fun g e => hb5.block g (HOCr.out.1.lt g e).2), HOCr.out.2.1, HOCr.out.2.2.below hb5⟩)
        have HB5 := Lib.hid (HBl.out.trans (hb5.mono hw2r))
        have hs5 : w4.heap.size ≤ w5.heap.size := Nat.le_trans hszr hb5.size
        clear hb5
        go_wp2_with fail
        go_roundw
        case rel => exact ⟨k + 1, pp, cp, by omega, by go_num, by rw [HM.out], by rw [HM.out]; exact HO5.out, by rw [HM.out]; exact HAT.out, HB5.out, hs5, HOC5.out⟩
        case measure => simp [intOf]; omega
      · have HM := Lib.hid (sel_hit hp)
        rw [hp] at HF
        clear hp
        generalize (A.getD k []).length = sl at *
        generalize selTo p k = sel at *
        obtain ⟨wo, hwo⟩ : ∃ wo : World, wo = wr := ⟨_, rfl⟩
        subst hwo
        go_wp2_with fail
        refine HF.out.mono ?_
        rintro e wr ⟨rfl, hb5⟩
        have HO := Lib.hid (ownsRow_block HO.out (fun g e => hb5.block g (HO.out.lt g e).2))
        have HOCr := Lib.hid (show OwnC w1.heap.size w4.heap.size wr (.slice (some ⟨gl, 0, none⟩) A.length cl) A csl from ⟨ownsRow_block HOCr.out.1 (fun g e => hb5.block g (HOCr.out.1.lt g e).2), HOCr.out.2.1, HOCr.out.2.2.below hb5⟩)
        have HBl := Lib.hid (HBl.out.trans (hb5.mono hw2r))
        have hszr : w4.heap.size ≤ wr.heap.size := Nat.le_trans hszr hb5.size
        have hw2r := HBl.out.size
        have hcl := cell_below hb5 hcl hgl9
        have hgl9 : gl < wr.heap.size := Nat.lt_of_lt_of_le hgl9 hb5.size
        have HV := Lib.hid HO.out.lt
        clear hb5 HF
        go_wp2_with (at_builtin; refine wpList_append_lies _ rfl _ _ 22 rfl w.heap.size 30 i0 (.slice none 0 0) 1 24 Try.underlying22 hi hz0 hz1 hz2 rfl (by decide) (.slice pp sel.length cp) sel.length (sel.map fun j => csl.getD j undef) rfl (HO.out.alloc _) ⟨wr.heap.size, 0, none⟩ 1 1 [.slice sa sl sc] rfl rfl (cell_one_new _ _ _) (by simp [Value.oneCell']) (by omega) (by unfold maxLen; omega) (by omega) (by simp; omega) _ rfl ?_; intro gg cap w7 hown' hgrow hat _)
        have hstay : ∀ g, g < wr.heap.size → (∀ g', (Value.slice pp sel.length cp).ownBlock = some g' → g ≠ g') → w7.heap[g]? = wr.heap[g]? := fun g hg hne => (hgrow.block g (by simp; omega) (fun e => hne g e.symm rfl)).trans (Below.heap_alloc wr _ g hg)
        have HO2 := Lib.hid (show w7.ownsRow w.heap.size 30 1 (.slice (some ⟨gg, 0, none⟩) (selTo p (k + 1)).length cap) (selTo p (k + 1)).length ((selTo p (k + 1)).map fun j => csl.getD j undef) from by
          rw [HM.out, List.map_append, List.length_append]
          show w7.ownsRow _ _ _ _ _ (_ ++ [csl.getD k undef])
          rw [HVS.out]; exact hown')
        have HB2' := Lib.hid ((HBl.out.alloc hw2r _).grown hgrow (by simp; omega) (fun g e => (HV.out g e).1))
        have HOC2 := Lib.hid (show OwnC w1.heap.size w4.heap.size w7 (.slice (some ⟨gl, 0, none⟩) A.length cl) A csl from
          ⟨ownsRow_block HOCr.out.1 (fun g e => hstay g (HOCr.out.1.lt g e).2 (fun g' e' => by have h1 := HOCr.out.1.lt g e; have h2 := HOCr.out.2.1 g e; have h3 := HAT.out g' e'; omega)), HOCr.out.2.1, HOCr.out.2.2.keep (fun g h1 h2 h3 _ => hstay g h3 (fun g' e' => by have h4 := HAT.out g' e'; omega))⟩)
        have HAT2 := Lib.hid (show ∀ g, (Value.slice (some ⟨gg, 0, none⟩) (selTo p (k + 1)).length cap).ownBlock = some g → g < w1.heap.size ∨ w4.heap.size ≤ g from fun g e => by
          obtain rfl : gg = g := by simpa [Value.ownBlock] using e
          rcases hat with ha | ha
          · exact HAT.out gg ha
          · simp at ha; omega)
        have hs7 : w4.heap.size ≤ w7.heap.size := by have := hgrow.size; simp at this; omega
        clear hown' hgrow hat hstay
        go_wp2_with fail
        go_roundw
        case rel => exact ⟨k + 1, some ⟨gg, 0, none⟩, cap, by omega, by go_num, by rw [HM.out, List.length_append]; rfl, HO2.out, HAT2.out, HB2'.out, hs7, HOC2.out⟩
        case measure => simp [intOf]; omega
    · obtain rfl : k = N := by omega
      have hrs := rows_sel hoc.2.2 (selTo p k) (sel_nodup p k) (fun j hj => by rw [HAL.out]; exact sel_lt hj)
      have HF := Lib.hid (show RetGB ((selTo p k).map fun j => A.getD j []) true w (.returned (.tuple #[.slice pp (selTo p k).length cp, .bool true])) wr from ⟨_, rfl, ⟨(selTo p k).map fun j => csl.getD j undef, by rw [List.length_map]; exact hown, fun g e => (hown.lt g e).2, hrs.mono (by omega) hszr⟩, hbel⟩)
      clear hown hoc hrs hbel hat0
      go_wp2_with fail
      go_ret2
      exact HF.out
set_option maxRecDepth 100000 in
set_option maxHeartbeats 4000000 in
theorem impl_no (n : Int) (w : World) (h : (decide (0 ≤ n) && decide (n ≤ 8)) = false) :
    Calls Try.prog 21 #[.int .i64 n] w (RetGB [] false w) := by
  have H1 := Lib.hid h
  clear h
  go_enter Try.func21, Try.ntmps21
  go_wp2_with fail
  refine (sauer.impl_label_count _ _ false H1).mono ?_
  rintro e w' ⟨rfl, rfl⟩
  go_wp2_with fail
  go_ret2
  have hz9 := World.ownsRow_made (base := w.heap.size) (e := 30) (size := 1) w #[] 0 (Nat.le_refl _) (by unfold maxLen; omega) rfl
  exact ⟨_, rfl, ⟨[], hz9, fun g e => (hz9.lt g e).2, RowsOf.nil _ _ _⟩, below_alloc _ _⟩
set_option maxRecDepth 100000 in
set_option maxHeartbeats 4000000 in
theorem impl_yes (m : Nat) (w : World) (h8 : m ≤ 8) :
    Calls Try.prog 21 #[.int .i64 m] w (RetGB (ivL m) true w) := by
  have H1 : Hid ((decide ((0 : Int) ≤ m) && decide ((m : Int) ≤ 8)) = true) := Lib.hid (by simp; omega)
  have HS := Lib.hid (fun (wa : World) => impl_lists m wa h8)
  have hp12 := bits8.pow8 h8
  have HAL := Lib.hid (allL_length m)
  have HSL := Lib.hid (show ivL m = (selTo (ivB m) (2 ^ m)).map (fun k => (allL m).getD k []) from rfl)
  have HS8 := Lib.hid (fun (k : Nat) (hkk : k < (allL m).length) => all8 h8 hkk)
  have HSB := Lib.hid (fun k => show intB ((allL m).getD k []) = ivB m k from rfl)
  rw [HSL.out]
  generalize ivB m = p at *
  generalize allL m = A at *
  generalize 2 ^ m = N at *
  clear HSL
  go_enter Try.func21, Try.ntmps21
  go_wp2_with fail
  refine (sauer.impl_label_count _ _ true H1).mono ?_
  rintro e w' ⟨rfl, rfl⟩
  go_wp2_with fail
  refine (HS.out _).mono ?_
  rintro e w4 ⟨v, rfl, hol, hb4⟩
  obtain ⟨csl, hoc⟩ := hol
  have hN1 : 1 ≤ A.length := by rw [HAL.out]; exact hp12.1
  obtain ⟨gl, cl, hvl, hgl⟩ := own_form hoc.1 hN1
  subst hvl
  have hgl2 := (hoc.1.lt gl rfl).1
  have HB4 := Lib.hid hb4
  have HOC := Lib.hid hoc
  have HD := Lib.hid (del0 58 (enters_of Try.func58 (by kernel_rfl) rfl) w.heap.size gl A.length cl csl p w4 (by rw [HAL.out]; omega) hoc.1 (fun k hk => by obtain ⟨pa, cc, he, _⟩ := own_cell HOC.out rfl hk; exact ⟨pa, _, cc, he⟩)
    (Lib.hid (fun k wr hk hst => by
      obtain ⟨pa, cc, he, _, hoi⟩ := own_cell HOC.out rfl hk
      have hq := (hoi.block (w' := wr) (fun g9 e9 => hst.block g9 (hoi.lt e9).2.2 (fun e7 => by
        subst e7
        exact ownsRow_ne hoi.1 HOC.out.1 (by decide) e9 rfl))).reads
      exact impl_gap _ pa (A.getD k []) cc wr he hq (HS8.out k hk).2 (HS8.out k hk).1 (p k) (HSB.out k))))
  rw [HAL.out] at HD ⊢
  clear hb4 HS hN1 hoc
  go_wp2_with fail
  refine HD.out.mono ?_
  rintro e w5 ⟨rfl, ho5, hst5⟩
  have hrs := (rows_sel (HOC.out.2.2.keep (w' := w5) (fun g h1 h2 h3 hbb => hst5.block g h3 (fun e7 => by
    subst e7
    obtain ⟨i, hi9, hbk⟩ := hbb
    exact ownsRow_ne (HOC.out.2.2.2.1 i hi9).1 HOC.out.1 (by decide) hbk rfl))) (selTo p N) (sel_nodup p N) (fun j hj => by rw [HAL.out]; exact sel_lt hj))
  have hs5 := hst5.size
  have hs4 := HB4.out.size
  have HF := Lib.hid (show RetGB ((selTo p N).map fun j => A.getD j []) true w (.returned (.tuple #[.slice (some ⟨gl, 0, none⟩) (selTo p N).length cl, .bool true])) w5 from
    ⟨_, rfl, ⟨(selTo p N).map fun j => csl.getD j undef, by rw [List.length_map]; exact ho5, fun g e => (ho5.lt g e).2, hrs.mono (by omega) hs5⟩,
      ⟨hst5.os.trans HB4.out.os, hst5.tape.trans HB4.out.tape, hst5.output.trans HB4.out.output, Nat.le_trans HB4.out.size hs5, fun b hb => (hst5.block b (by omega) (by omega)).trans (HB4.out.block b hb)⟩⟩)
  clear ho5 hst5 hrs HD
  go_wp2_with fail
  go_ret2
  exact HF.out
end Go.Proofs.Ytncidajjeccbkaa.intv
