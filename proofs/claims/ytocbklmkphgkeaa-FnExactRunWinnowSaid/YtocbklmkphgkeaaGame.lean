/- The walks of the model's and the program's game of winnow. -/
import Derived.Test.YtocbklmkphgkeaaTurn
import Derived.Test.YtocbklmkphgkeaaRowsW
import Derived.Test.YtocbklmkphgkeaaRepeat
import Derived.Test.YtocbklmkphgkeaaOr
import Derived.Deep.RegionHeld3
import Derived.Deep.DrawnRows
namespace Go.Proofs.Ytocbklmkphgkeaa.game
open Go.RowKit own own1 pp nums range winbound dots turn rowsw
set_option linter.unusedVariables false
set_option linter.unusedSimpArgs false
attribute [local go_sem ↓] Go.wp_at_zero Go.wp_at_succ

/-- The shares behind the first k turns, and how many of these said wrongly. -/
def gs (rows : List (List Int)) (ys : List Int) (n : Nat) : Nat → List Int
  | 0 => List.replicate n 1
  | k + 1 => next (gs rows ys n k) (rows.getD k []) (ys.getD k 0)
def gw (rows : List (List Int)) (ys : List Int) (n : Nat) : Nat → Nat
  | 0 => 0
  | k + 1 => if says (gs rows ys n k) (rows.getD k []) = ys.getD k 0 then gw rows ys n k else gw rows ys n k + 1
theorem gs_length (rows : List (List Int)) (ys : List Int) (n k : Nat) : (gs rows ys n k).length = n := by
  induction k with
  | zero => simp [gs]
  | succ k ih => unfold gs; rw [next_length, ih]
theorem gw_le (rows : List (List Int)) (ys : List Int) (n k : Nat) : gw rows ys n k ≤ k := by
  induction k with
  | zero => simp [gw]
  | succ k ih => unfold gw; split <;> omega
theorem gw_succ (rows : List (List Int)) (ys : List Int) (n k : Nat) : gw rows ys n (k + 1) = if says (gs rows ys n k) (rows.getD k []) = ys.getD k 0 then gw rows ys n k else gw rows ys n k + 1 := rfl
theorem gw_yes {rows : List (List Int)} {ys : List Int} {n k : Nat} (h : says (gs rows ys n k) (rows.getD k []) = ys.getD k 0) : gw rows ys n (k + 1) = gw rows ys n k := by rw [gw_succ]; exact if_pos h
theorem gw_no {rows : List (List Int)} {ys : List Int} {n k : Nat} (h : says (gs rows ys n k) (rows.getD k []) ≠ ys.getD k 0) : gw rows ys n (k + 1) = gw rows ys n k + 1 := by rw [gw_succ]; exact if_neg h
theorem dot_ge {ss rs : List Int} (h0 : ∀ j, j < ss.length → 0 ≤ ss.getD j 0) (hb : ∀ j, j < ss.length → 0 ≤ rs.getD j 0 ∧ rs.getD j 0 ≤ 1) (k : Nat) (hk : k ≤ ss.length) :
    0 ≤ dotTo ss rs k ∧ ∀ j, j < k → rs.getD j 0 = 1 → ss.getD j 0 ≤ dotTo ss rs k := by
  induction k with
  | zero => exact ⟨by simp [dotTo_zero], fun j hj => by omega⟩
  | succ k ih =>
    obtain ⟨h1, h2⟩ := ih (by omega)
    rw [dotTo_succ]
    have a := h0 k (by omega)
    have b := hb k (by omega)
    have hp : 0 ≤ ss.getD k 0 * rs.getD k 0 := Int.mul_nonneg a b.1
    refine ⟨by omega, fun j hj e => ?_⟩
    by_cases hjk : j = k
    · subst hjk
      rw [e]
      omega
    · have := h2 j (by omega) e
      omega
theorem next_shares {ss rs : List Int} {y : Int} (h : swB ss rs y = true) : sharesB (next ss rs y) = true := by
  have hF := Fit.of h
  by_cases hs : says ss rs = y
  · rw [next_says hs]
    exact ((swB_iff _ _ _).1 h).1
  · rw [next_wrong hs]
    simp only [sharesB, Bool.and_eq_true, decide_eq_true_eq]
    rw [part_length]
    refine ⟨⟨by have := hF.pos; omega, by have := hF.le; omega⟩, all_true _ 0 _ fun k hk => ?_⟩
    rw [part_length] at hk
    rw [List.getD_eq_getElem?_getD, part_at _ _ _ _ _ hk, Option.getD_some, inR_iff]
    have hb := numsR_at hF.bd k hk
    split
    · rename_i hc
      rcases hF.ans with rfl | rfl
      · omega
      · have h1 : ¬ ((ss.length : Int) ≤ dot ss rs) := fun h1 => hs (by simp [says, h1])
        have h2 := (dot_ge (fun j hj => (numsR_at hF.bd j hj).1) (fun j hj => numsR_at hF.bits j (by rw [hF.len]; exact hj)) ss.length (Nat.le_refl _)).2 k hk hc.2
        have h3 : ss.getD k 0 ≤ dot ss rs := h2
        have := hF.le
        omega
    · exact hb
def rwB (n : Int) (rows : List (List Int)) (ys : List Int) : Bool := allB n rows && rowsB' rows.length ys
theorem rwB_iff (n : Int) (rows : List (List Int)) (ys : List Int) : rwB n rows ys = true ↔ allB n rows = true ∧ rowsB' rows.length ys = true := by simp [rwB]
structure GF (rows : List (List Int)) (ys : List Int) (n : Nat) : Prop where
  pos : 1 ≤ n
  le : n ≤ 8
  few : rows.length ≤ 40
  lab : ys.length = rows.length
  turn : ∀ k, k < rows.length → swB (gs rows ys n k) (rows.getD k []) (ys.getD k 0) = true
theorem gf_of {n : Int} {rows : List (List Int)} {ys : List Int} (h : rwB n rows ys = true) : ∃ N : Nat, n = N ∧ GF rows ys N := by
  obtain ⟨h1, h2⟩ := (rwB_iff _ _ _).1 h
  obtain ⟨a1, a2, a3, a4⟩ := orw.fit_all h1
  simp only [rowsB', Bool.and_eq_true, decide_eq_true_eq] at h2
  refine ⟨n.toNat, by omega, by omega, by omega, a3, by omega, ?_⟩
  have key : ∀ k, k ≤ rows.length → sharesB (gs rows ys n.toNat k) = true ∧ (k < rows.length → swB (gs rows ys n.toNat k) (rows.getD k []) (ys.getD k 0) = true) := by
    intro k
    have tw : sharesB (gs rows ys n.toNat k) = true → k < rows.length → swB (gs rows ys n.toNat k) (rows.getD k []) (ys.getD k 0) = true := fun hs hk => by
      refine (swB_iff _ _ _).2 ⟨hs, ?_, ?_⟩
      · simp only [rowsB', Bool.and_eq_true, decide_eq_true_eq]
        rw [gs_length]
        have := a4 k hk
        exact ⟨this.2, by omega⟩
      · exact (inR_iff _ _ _).2 (numsR_at h2.1 k (by omega))
    induction k with
    | zero =>
      intro _
      have hs : sharesB (gs rows ys n.toNat 0) = true := by
        simp only [sharesB, Bool.and_eq_true, decide_eq_true_eq]
        rw [gs_length]
        refine ⟨⟨by omega, by omega⟩, all_true _ 0 _ fun j hj => ?_⟩
        rw [gs_length] at hj
        show inR 0 16 ((List.replicate n.toNat (1 : Int)).getD j 0) = true
        rw [List.getD_eq_getElem?_getD, List.getElem?_replicate, if_pos hj]
        decide
      exact ⟨hs, tw hs⟩
    | succ k ih =>
      intro hk
      have hs : sharesB (gs rows ys n.toNat (k + 1)) = true := by
        obtain ⟨b1, b2⟩ := ih (fun hs hk => by
          refine (swB_iff _ _ _).2 ⟨hs, ?_, ?_⟩
          · simp only [rowsB', Bool.and_eq_true, decide_eq_true_eq]
            rw [gs_length]
            have := a4 k hk
            exact ⟨this.2, by omega⟩
          · exact (inR_iff _ _ _).2 (numsR_at h2.1 k (by omega))) (by omega)
        exact next_shares (b2 (by omega))
      exact ⟨hs, tw hs⟩
  exact fun k hk => (key k (by omega)).2 hk
set_option maxRecDepth 100000 in
set_option maxHeartbeats 4000000 in
theorem spec_no1 (n : Int) (a : Option Addr) (rows : List (List Int)) (c : Nat) (p : Option Addr) (ys : List Int) (q : Nat) (w : World) (hr : grid.Reads w a rows) (hq : ints.Reads .i64 w p ys) (hn : rows.length ≤ 1048576) (hm : ∀ r ∈ rows, r.length ≤ 1048576) (hw : ys.length ≤ 1048576) (h : Hid (allB n rows = false)) :
    Calls Try.prog 64 #[.int .i64 n, .slice a rows.length c, .slice p ys.length q] w (RetINB [] 0 false w) := by
  have HMM := Lib.hid hm
  clear hm
  have Hhr := Lib.hid hr
  have Hhq := Lib.hid hq
  clear hr hq
  go_enter Try.func64, Try.ntmps64
  go_wp2_with fail
  have HB0 := Lib.hid (Below.refl w.heap.size w)
  have s0 : w.heap.size ≤ w.heap.size := Nat.le_refl _
  refine (spec_rows n a rows c _ Hhr.out hn HMM.out false h).mono ?_
  rintro e w' ⟨rfl, rfl⟩
  go_wp2_with fail
  go_ret3
  exact ⟨_, rfl, (own_empty _).mono (Nat.le_refl _) (by simp), (Below.refl _ _).alloc (Nat.le_refl _) _⟩
set_option maxRecDepth 100000 in
set_option maxHeartbeats 4000000 in
theorem spec_no2 (n : Int) (a : Option Addr) (rows : List (List Int)) (c : Nat) (p : Option Addr) (ys : List Int) (q : Nat) (w : World) (hr : grid.Reads w a rows) (hq : ints.Reads .i64 w p ys) (hn : rows.length ≤ 1048576) (hm : ∀ r ∈ rows, r.length ≤ 1048576) (hw : ys.length ≤ 1048576) (h1 : Hid (allB n rows = true)) (h : Hid (rowsB' rows.length ys = false)) :
    Calls Try.prog 64 #[.int .i64 n, .slice a rows.length c, .slice p ys.length q] w (RetINB [] 0 false w) := by
  have HMM := Lib.hid hm
  clear hm
  have Hhr := Lib.hid hr
  have Hhq := Lib.hid hq
  clear hr hq
  go_enter Try.func64, Try.ntmps64
  go_wp2_with fail
  have HB0 := Lib.hid (Below.refl w.heap.size w)
  have s0 : w.heap.size ≤ w.heap.size := Nat.le_refl _
  refine (spec_rows n a rows c _ Hhr.out hn HMM.out true h1).mono ?_
  rintro e w' ⟨rfl, rfl⟩
  go_wp2_with fail
  refine (spec_row _ p ys q _ Hhq.out hw false h).mono ?_
  rintro e w' ⟨rfl, rfl⟩
  go_wp2_with fail
  go_ret3
  exact ⟨_, rfl, (own_empty _).mono (Nat.le_refl _) (by simp), (Below.refl _ _).alloc (Nat.le_refl _) _⟩
set_option maxRecDepth 100000 in
set_option maxHeartbeats 4000000 in
theorem spec_full (n : Int) (a : Option Addr) (rows : List (List Int)) (c : Nat) (p : Option Addr) (ys : List Int) (q : Nat) (w : World) (hr : grid.Reads w a rows) (hq : ints.Reads .i64 w p ys) (hn : rows.length ≤ 1048576) (hm : ∀ r ∈ rows, r.length ≤ 1048576) (hw : ys.length ≤ 1048576) (hB : rwB n rows ys = true) :
    Calls Try.prog 64 #[.int .i64 n, .slice a rows.length c, .slice p ys.length q] w (RetINB (gs rows ys n.toNat rows.length) (gw rows ys n.toNat rows.length) true w) := by
  have HMM := Lib.hid hm
  clear hm
  obtain ⟨i0, hi, hz0, hz1, hz2⟩ := info_parts turn.infoInt
  obtain ⟨N, rfl, hG⟩ := gf_of hB
  obtain ⟨hb1, hb2⟩ := (rwB_iff _ _ _).1 hB
  have h1 := Lib.hid hb1
  have h2 := Lib.hid hb2
  have HG := Lib.hid hG
  have n1 := hG.pos
  have n8 := hG.le
  have n40 := hG.few
  have HL := Lib.hid hG.lab
  clear hb1 hb2 hG hB
  rw [show ((N : Nat) : Int).toNat = N from rfl]
  have Hhr := Lib.hid hr
  have Hhq := Lib.hid hq
  clear hr hq
  go_enter Try.func64, Try.ntmps64
  go_wp2_with fail
  have HB0 := Lib.hid (Below.refl w.heap.size w)
  have s0 : w.heap.size ≤ w.heap.size := Nat.le_refl _
  refine (spec_rows _ a rows c _ Hhr.out hn HMM.out true h1).mono ?_
  rintro e w' ⟨rfl, rfl⟩
  go_wp2_with fail
  refine (spec_row _ p ys q _ Hhq.out hw true h2).mono ?_
  rintro e w' ⟨rfl, rfl⟩
  go_wp2_with fail
  have hown0 := (own_empty w).1
  have hb0 := below_alloc w (.cells #[] 3)
  go_loopw [9, 11] (fun v i wr => ∃ (k : Nat), k ≤ N ∧ i = .int .i64 k ∧ wr.ownsRow w.heap.size 3 1 v k ((List.replicate k (1 : Int)).map (Value.int .i64)) ∧ Below w.heap.size w wr) (fun _ i _ => N - (intOf i).toNat)
  case atStart => exact ⟨0, Nat.zero_le _, rfl, hown0, hb0⟩
  case round =>
    obtain ⟨k, hk, rfl, hown, hbel⟩ := hrel
    have hvb := hown.lt
    have HV := Lib.hid hvb
    have HBl := Lib.hid hbel
    have hsz := hbel.size
    clear hown0 hb0 hvb
    by_cases hlt : k < N
    · have HO := Lib.hid hown
      have i1 : (k : Int) < (N : Int) := by omega
      have HSn := Lib.hid (show (List.replicate (k + 1) (1 : Int)).map (Value.int .i64) = (List.replicate k (1 : Int)).map (Value.int .i64) ++ [.int .i64 1] from by rw [List.replicate_succ']; simp)
      clear hown hbel
      go_wp2_with (at_builtin; refine wpList_append_own _ rfl _ _ 23 rfl w.heap.size 3 i0 (.int .i64 0) 1 8 Try.underlying23 hi hz0 hz1 hz2 rfl (by decide) _ _ _ rfl (HO.out.alloc _) ⟨wr.heap.size, 0, none⟩ 1 1 [.int .i64 1] rfl rfl (cell_one_new _ _ _) (by simp [Value.oneCell']) (by unfold maxLen; omega) (by omega) (by simp; omega) ?_; intro v' w2 hown' hgrow _)
      obtain ⟨g', cap', hv'⟩ := ownsRow_succ hown'
      subst hv'
      have HO2 := Lib.hid hown'
      have HB2 := Lib.hid ((HBl.out.alloc hsz _).grown hgrow (by simp; omega) (fun g e => (HV.out g e).1))
      clear hown' hgrow
      go_wp2_with fail
      go_roundw
      case rel => exact ⟨k + 1, by omega, by go_num, by rw [HSn.out]; exact HO2.out, HB2.out⟩
      case measure => simp [intOf]; omega
    · obtain rfl : N = k := by omega
      have HSH := Lib.hid (show ∃ (p1 : Option Addr) (q1 : Nat), u9 = .slice p1 (gs rows ys N 0).length q1 ∧ OwnI w.heap.size wr.heap.size wr (.slice p1 (gs rows ys N 0).length q1) (gs rows ys N 0) from by
        have ho : OwnI w.heap.size wr.heap.size wr u9 (List.replicate N 1) := OwnI.of (by rw [List.length_replicate]; exact hown)
        obtain ⟨p1, q1, e, _, _, _⟩ := ho.slice
        refine ⟨p1, q1, e, ?_⟩
        rw [e] at ho
        exact ho)
      clear hown hbel
      go_wp2_with fail
      go_loopw [9, 10, 12] (fun v x i wr => ∃ k : Nat, k ≤ rows.length ∧ x = .int .i64 (gw rows ys N k) ∧ i = .int .i64 k ∧ Hid (∃ (p1 : Option Addr) (q1 : Nat), v = .slice p1 (gs rows ys N k).length q1 ∧ OwnI w.heap.size wr.heap.size wr (.slice p1 (gs rows ys N k).length q1) (gs rows ys N k)) ∧ Hid (Below w.heap.size w wr)) (fun _ _ i _ => rows.length - (intOf i).toNat)
      case atStart => exact ⟨0, Nat.zero_le _, rfl, rfl, HSH, HBl⟩
      case round =>
        obtain ⟨k, hk, rfl, rfl, HSH, HBl⟩ := hrel
        obtain ⟨p1, q1, rfl, HOw⟩ := HSH.out
        clear HSH
        have HO := Lib.hid HOw
        have hbel := HBl.out
        have hsz := hbel.size
        have hgw := gw_le rows ys N k
        clear HOw
        by_cases hlt : k < rows.length
        · obtain ⟨bl, off, rp, rq, rfl, hbl, hc, hpq, hrow⟩ := Hhr.out.at hlt
          obtain ⟨qb, qo, rfl, hql, hqc⟩ := Hhq.out.at (k := k) (by have := HL.out; omega)
          have HT9 := Lib.hid (HG.out.turn k hlt)
          have HRd := Lib.hid hrow
          replace hc := cell_below hbel hc hbl
          replace hqc := cell_below hbel hqc hql
          have HSN := Lib.hid (show next (gs rows ys N k) (rows.getD k []) (ys.getD k 0) = gs rows ys N (k + 1) from rfl)
          have HN := Lib.hid (gs_length rows ys N k)
          have i1 : (0 : Int) ≤ (k : Int) := by omega
          have i2 : (k : Int) < (rows.length : Int) := by omega
          have i3 : (k : Int) < (ys.length : Int) := by have := HL.out; omega
          clear hrow hpq hbel
          by_cases hs : says (gs rows ys N k) (rows.getD k []) = ys.getD k 0
          · have HGW := Lib.hid (gw_yes hs)
            have hdec : decide (says (gs rows ys N k) (rows.getD k []) = ys.getD k 0) = true := decide_eq_true hs
            clear hs
            generalize gs rows ys N k = ss at *
            generalize rows.getD k [] = r at *
            generalize ys.getD k 0 = y at *
            generalize gw rows ys N k = gg at *
            have e1 : IntKind.i64.wrap ((gg : Int) + 1) = ((gg + 1 : Nat) : Int) := by rw [IntWalk.i64_in _ (by omega)]; omega
            have HT := Lib.hid (show ∀ wa : World, (wa.cell? ⟨bl, off + k, none⟩ = some (.slice rp r.length rq) ∧ wa.cell? ⟨qb, qo + k, none⟩ = some (.int .i64 y) ∧ wr.heap.size ≤ wa.heap.size ∧ Below w.heap.size w wa) → OwnI w.heap.size wr.heap.size wa (.slice p1 ss.length q1) ss → Calls Try.prog 123 #[.slice p1 ss.length q1, .slice rp r.length rq, .int .i64 y] wa (fun e w' => ∃ (p2 : Option Addr) (q2 : Nat), e = .returned (.tuple #[.slice p2 (next ss r y).length q2, .bool true]) ∧ OwnI w.heap.size w'.heap.size w' (.slice p2 (next ss r y).length q2) (next ss r y) ∧ w'.cell? ⟨bl, off + k, none⟩ = some (.slice rp r.length rq) ∧ w'.cell? ⟨qb, qo + k, none⟩ = some (.int .i64 y) ∧ wr.heap.size ≤ w'.heap.size ∧ Below w.heap.size w w') from fun wa hS hO => by
              have hwz := hS.2.2.1
              have hB := hS.2.2.2
              refine (spec_turn p1 ss q1 rp r rq y wa hO.reads (HRd.out.below hS.2.2.2) (Fit.of HT9.out)).mono ?_
              rintro e w' ⟨v', rfl, ho, hb⟩
              obtain ⟨p2, q2, rfl, _, _, _⟩ := ho.slice
              exact ⟨p2, q2, by rw [hdec], ho.mono (by omega) (Nat.le_refl _), cell_below hb hS.1 (by omega), cell_below hb hS.2.1 (by omega), Nat.le_trans hwz hb.size, hB.trans (hb.mono (by omega))⟩)
            clear hdec
            go_wp2_with fail
            go_region_held3 (fun w' => w'.cell? ⟨bl, off + k, none⟩ = some (.slice rp r.length rq) ∧ w'.cell? ⟨qb, qo + k, none⟩ = some (.int .i64 y) ∧ wr.heap.size ≤ w'.heap.size ∧ Below w.heap.size w w') (first | assumption | exact ⟨hc, hqc, Nat.le_refl _, HBl.out⟩ | exact ⟨hc, hqc, Nat.le_refl _, HBl.out.drew⟩) (first | (go_at_call 123; refine Calls.mono (HT.out _ (by assumption) ?_) ?_; (first | exact HO.out | exact HO.out.below (Below.refl _ _).drew); rintro e w2 ⟨p2, q2, rfl, ho2, hbx⟩))
            have HO2 := Lib.hid ho2
            have HB2 := Lib.hid hbx.2.2.2
            clear ho2 hbx HT
            go_wp2_with fail
            go_roundw
            case rel => exact ⟨k + 1, by omega, by first | (rw [HGW.out]; done) | (rw [HGW.out]; rfl) | (rw [HGW.out]; congr 1), by go_num, Lib.hid (by rw [← HSN.out]; exact ⟨p2, q2, rfl, HO2.out⟩), HB2⟩
            case measure => simp [intOf]; omega
          · have HGW := Lib.hid (gw_no hs)
            have hdec : decide (says (gs rows ys N k) (rows.getD k []) = ys.getD k 0) = false := decide_eq_false hs
            clear hs
            generalize gs rows ys N k = ss at *
            generalize rows.getD k [] = r at *
            generalize ys.getD k 0 = y at *
            generalize gw rows ys N k = gg at *
            have e1 : IntKind.i64.wrap ((gg : Int) + 1) = ((gg + 1 : Nat) : Int) := by rw [IntWalk.i64_in _ (by omega)]; omega
            have HT := Lib.hid (show ∀ wa : World, (wa.cell? ⟨bl, off + k, none⟩ = some (.slice rp r.length rq) ∧ wa.cell? ⟨qb, qo + k, none⟩ = some (.int .i64 y) ∧ wr.heap.size ≤ wa.heap.size ∧ Below w.heap.size w wa) → OwnI w.heap.size wr.heap.size wa (.slice p1 ss.length q1) ss → Calls Try.prog 123 #[.slice p1 ss.length q1, .slice rp r.length rq, .int .i64 y] wa (fun e w' => ∃ (p2 : Option Addr) (q2 : Nat), e = .returned (.tuple #[.slice p2 (next ss r y).length q2, .bool false]) ∧ OwnI w.heap.size w'.heap.size w' (.slice p2 (next ss r y).length q2) (next ss r y) ∧ w'.cell? ⟨bl, off + k, none⟩ = some (.slice rp r.length rq) ∧ w'.cell? ⟨qb, qo + k, none⟩ = some (.int .i64 y) ∧ wr.heap.size ≤ w'.heap.size ∧ Below w.heap.size w w') from fun wa hS hO => by
              have hwz := hS.2.2.1
              have hB := hS.2.2.2
              refine (spec_turn p1 ss q1 rp r rq y wa hO.reads (HRd.out.below hS.2.2.2) (Fit.of HT9.out)).mono ?_
              rintro e w' ⟨v', rfl, ho, hb⟩
              obtain ⟨p2, q2, rfl, _, _, _⟩ := ho.slice
              exact ⟨p2, q2, by rw [hdec], ho.mono (by omega) (Nat.le_refl _), cell_below hb hS.1 (by omega), cell_below hb hS.2.1 (by omega), Nat.le_trans hwz hb.size, hB.trans (hb.mono (by omega))⟩)
            clear hdec
            go_wp2_with fail
            go_region_held3 (fun w' => w'.cell? ⟨bl, off + k, none⟩ = some (.slice rp r.length rq) ∧ w'.cell? ⟨qb, qo + k, none⟩ = some (.int .i64 y) ∧ wr.heap.size ≤ w'.heap.size ∧ Below w.heap.size w w') (first | assumption | exact ⟨hc, hqc, Nat.le_refl _, HBl.out⟩ | exact ⟨hc, hqc, Nat.le_refl _, HBl.out.drew⟩) (first | (go_at_call 123; refine Calls.mono (HT.out _ (by assumption) ?_) ?_; (first | exact HO.out | exact HO.out.below (Below.refl _ _).drew); rintro e w2 ⟨p2, q2, rfl, ho2, hbx⟩))
            have HO2 := Lib.hid ho2
            have HB2 := Lib.hid hbx.2.2.2
            clear ho2 hbx HT
            go_wp2_with fail
            go_roundw
            case rel => exact ⟨k + 1, by omega, by first | (rw [HGW.out]; done) | (rw [HGW.out]; rfl) | (rw [HGW.out]; congr 1), by go_num, Lib.hid (by rw [← HSN.out]; exact ⟨p2, q2, rfl, HO2.out⟩), HB2⟩
            case measure => simp [intOf]; omega
        · obtain rfl : k = rows.length := by omega
          have HF := Lib.hid (show RetINB (gs rows ys N rows.length) (gw rows ys N rows.length) true w (.returned (.tuple #[.slice p1 (gs rows ys N rows.length).length q1, .int .i64 (gw rows ys N rows.length), .bool true])) wr from ⟨_, rfl, HO.out, HBl.out⟩)
          generalize gs rows ys N rows.length = ss at *
          generalize gw rows ys N rows.length = gg at *
          clear hbel
          go_wp2_with fail
          go_ret3
          exact HF.out
    --FI
set_option maxRecDepth 100000 in
set_option maxHeartbeats 4000000 in
theorem impl_no1 (n : Int) (a : Option Addr) (rows : List (List Int)) (c : Nat) (p : Option Addr) (ys : List Int) (q : Nat) (w : World) (hr : grid.Reads w a rows) (hq : ints.Reads .i64 w p ys) (hn : rows.length ≤ 1048576) (hm : ∀ r ∈ rows, r.length ≤ 1048576) (hw : ys.length ≤ 1048576) (h : Hid (allB n rows = false)) :
    Calls Try.prog 66 #[.int .i64 n, .slice a rows.length c, .slice p ys.length q] w (RetINB [] 0 false w) := by
  have HMM := Lib.hid hm
  clear hm
  have Hhr := Lib.hid hr
  have Hhq := Lib.hid hq
  clear hr hq
  go_enter Try.func66, Try.ntmps66
  go_wp2_with fail
  have HB0 := Lib.hid (Below.refl w.heap.size w)
  have s0 : w.heap.size ≤ w.heap.size := Nat.le_refl _
  refine (impl_rows n a rows c _ Hhr.out hn HMM.out false h).mono ?_
  rintro e w1 ⟨rfl, hb⟩
  have s1 : w.heap.size ≤ w1.heap.size := hb.size
  have HB1 := Lib.hid (HB0.out.trans (hb.mono (by omega)))
  clear hb
  go_wp2_with fail
  go_ret3
  exact ⟨_, rfl, (own_empty _).mono HB1.out.size (by simp), HB1.out.alloc HB1.out.size _⟩
set_option maxRecDepth 100000 in
set_option maxHeartbeats 4000000 in
theorem impl_no2 (n : Int) (a : Option Addr) (rows : List (List Int)) (c : Nat) (p : Option Addr) (ys : List Int) (q : Nat) (w : World) (hr : grid.Reads w a rows) (hq : ints.Reads .i64 w p ys) (hn : rows.length ≤ 1048576) (hm : ∀ r ∈ rows, r.length ≤ 1048576) (hw : ys.length ≤ 1048576) (h1 : Hid (allB n rows = true)) (hl : ys.length ≠ rows.length) :
    Calls Try.prog 66 #[.int .i64 n, .slice a rows.length c, .slice p ys.length q] w (RetINB [] 0 false w) := by
  have HMM := Lib.hid hm
  clear hm
  have g1 : ((ys.length : Int) != (rows.length : Int)) = true := by rw [bne_iff_ne]; omega
  clear hl
  have Hhr := Lib.hid hr
  have Hhq := Lib.hid hq
  clear hr hq
  go_enter Try.func66, Try.ntmps66
  go_wp2_with fail
  have HB0 := Lib.hid (Below.refl w.heap.size w)
  have s0 : w.heap.size ≤ w.heap.size := Nat.le_refl _
  refine (impl_rows n a rows c _ Hhr.out hn HMM.out true h1).mono ?_
  rintro e w1 ⟨rfl, hb⟩
  have s1 : w.heap.size ≤ w1.heap.size := hb.size
  have HB1 := Lib.hid (HB0.out.trans (hb.mono (by omega)))
  clear hb
  go_wp2_with fail
  go_ret3
  exact ⟨_, rfl, (own_empty _).mono HB1.out.size (by simp), HB1.out.alloc HB1.out.size _⟩
set_option maxRecDepth 100000 in
set_option maxHeartbeats 4000000 in
theorem impl_no3 (n : Int) (a : Option Addr) (rows : List (List Int)) (c : Nat) (p : Option Addr) (ys : List Int) (q : Nat) (w : World) (hr : grid.Reads w a rows) (hq : ints.Reads .i64 w p ys) (hn : rows.length ≤ 1048576) (hm : ∀ r ∈ rows, r.length ≤ 1048576) (hw : ys.length ≤ 1048576) (h1 : Hid (allB n rows = true)) (hl : ys.length = rows.length) (h : Hid (numsR 0 1 ys = false)) :
    Calls Try.prog 66 #[.int .i64 n, .slice a rows.length c, .slice p ys.length q] w (RetINB [] 0 false w) := by
  have HMM := Lib.hid hm
  clear hm
  have g1 : ((ys.length : Int) != (rows.length : Int)) = false := by rw [bne_eq_false_iff_eq]; omega
  clear hl
  have Hhr := Lib.hid hr
  have Hhq := Lib.hid hq
  clear hr hq
  go_enter Try.func66, Try.ntmps66
  go_wp2_with fail
  have HB0 := Lib.hid (Below.refl w.heap.size w)
  have s0 : w.heap.size ≤ w.heap.size := Nat.le_refl _
  refine (impl_rows n a rows c _ Hhr.out hn HMM.out true h1).mono ?_
  rintro e w1 ⟨rfl, hb⟩
  have s1 : w.heap.size ≤ w1.heap.size := hb.size
  have HB1 := Lib.hid (HB0.out.trans (hb.mono (by omega)))
  clear hb
  go_wp2_with fail
  refine (impl_bits p ys q _ (Hhq.out.below HB1.out) hw false h).mono ?_
  rintro e w' ⟨rfl, m2, rfl⟩
  have hb := ints.below_drewN (Below.refl w1.heap.size w1) m2
  generalize hw : w1.drewN m2 = w2 at *
  clear hw
  have s2 : w1.heap.size ≤ w2.heap.size := hb.size
  have HB2 := Lib.hid (HB1.out.trans (hb.mono (by omega)))
  clear hb
  go_wp2_with fail
  go_ret3
  exact ⟨_, rfl, (own_empty _).mono HB2.out.size (by simp), HB2.out.alloc HB2.out.size _⟩
set_option maxRecDepth 100000 in
set_option maxHeartbeats 4000000 in
theorem impl_full (n : Int) (a : Option Addr) (rows : List (List Int)) (c : Nat) (p : Option Addr) (ys : List Int) (q : Nat) (w : World) (hr : grid.Reads w a rows) (hq : ints.Reads .i64 w p ys) (hn : rows.length ≤ 1048576) (hm : ∀ r ∈ rows, r.length ≤ 1048576) (hw : ys.length ≤ 1048576) (hB : rwB n rows ys = true) :
    Calls Try.prog 66 #[.int .i64 n, .slice a rows.length c, .slice p ys.length q] w (RetINB (gs rows ys n.toNat rows.length) (gw rows ys n.toNat rows.length) true w) := by
  have HMM := Lib.hid hm
  clear hm
  obtain ⟨i0, hi, hz0, hz1, hz2⟩ := info_parts turn.infoInt
  obtain ⟨N, rfl, hG⟩ := gf_of hB
  obtain ⟨hb1, hb2⟩ := (rwB_iff _ _ _).1 hB
  have h1 := Lib.hid hb1
  have h2 := Lib.hid hb2
  have HG := Lib.hid hG
  have n1 := hG.pos
  have n8 := hG.le
  have n40 := hG.few
  have HL := Lib.hid hG.lab
  clear hb1 hb2 hG hB
  rw [show ((N : Nat) : Int).toNat = N from rfl]
  have g1 : ((ys.length : Int) != (rows.length : Int)) = false := by rw [bne_eq_false_iff_eq]; have := HL.out; omega
  have h3 := Lib.hid (show numsR 0 1 ys = true from by have := h2.out; simp only [rowsB', Bool.and_eq_true] at this; exact this.1)
  have Hhr := Lib.hid hr
  have Hhq := Lib.hid hq
  clear hr hq
  go_enter Try.func66, Try.ntmps66
  go_wp2_with fail
  have HB0 := Lib.hid (Below.refl w.heap.size w)
  have s0 : w.heap.size ≤ w.heap.size := Nat.le_refl _
  refine (impl_rows _ a rows c _ Hhr.out hn HMM.out true h1).mono ?_
  rintro e w1 ⟨rfl, hb⟩
  have s1 : w.heap.size ≤ w1.heap.size := hb.size
  have HB1 := Lib.hid (HB0.out.trans (hb.mono (by omega)))
  clear hb
  go_wp2_with fail
  refine (impl_bits p ys q _ (Hhq.out.below HB1.out) hw true h3).mono ?_
  rintro e w' ⟨rfl, m2, rfl⟩
  have hb := ints.below_drewN (Below.refl w1.heap.size w1) m2
  generalize hw : w1.drewN m2 = w2 at *
  clear hw
  have s2 : w1.heap.size ≤ w2.heap.size := hb.size
  have HB2 := Lib.hid (HB1.out.trans (hb.mono (by omega)))
  clear hb
  go_wp2_with fail
  have hA := below_alloc w2 (.cells #[.int .i64 1] 3)
  refine (repeatw.ones w2.heap.size 0 1 N (w2.alloc (.cells #[.int .i64 1] 3)) (cell_new _ _ _ rfl rfl) n1 (by omega)).mono ?_
  rintro e w9 ⟨v9, rfl, ho, hb⟩
  have HSH := Lib.hid (show ∃ (p1 : Option Addr) (q1 : Nat), v9 = .slice p1 (gs rows ys N 0).length q1 ∧ OwnI w.heap.size w9.heap.size w9 (.slice p1 (gs rows ys N 0).length q1) (gs rows ys N 0) from by
    have ho2 : OwnI w.heap.size w9.heap.size w9 v9 (List.replicate N 1) := ho.mono (by have := HB2.out.size; simp; omega) (Nat.le_refl _)
    obtain ⟨p1, q1, e, _, _, _⟩ := ho2.slice
    refine ⟨p1, q1, e, ?_⟩
    rw [e] at ho2
    exact ho2)
  have HBl := Lib.hid (HB2.out.trans ((hA.trans (hb.mono (by simp))).mono (by have := HB2.out.size; omega)))
  clear hA ho hb
  go_wp2_with fail
  go_loopw [9, 10, 38] (fun v x i wr => ∃ k : Nat, k ≤ rows.length ∧ x = .int .i64 (gw rows ys N k) ∧ i = .int .i64 k ∧ Hid (∃ (p1 : Option Addr) (q1 : Nat), v = .slice p1 (gs rows ys N k).length q1 ∧ OwnI w.heap.size wr.heap.size wr (.slice p1 (gs rows ys N k).length q1) (gs rows ys N k)) ∧ Hid (Below w.heap.size w wr)) (fun _ _ i _ => rows.length - (intOf i).toNat)
  case atStart => exact ⟨0, Nat.zero_le _, rfl, rfl, HSH, HBl⟩
  case round =>
    obtain ⟨k, hk, rfl, rfl, HSH, HBl⟩ := hrel
    obtain ⟨p1, q1, rfl, HOw⟩ := HSH.out
    clear HSH
    have HO := Lib.hid HOw
    have hbel := HBl.out
    have hsz := hbel.size
    have hgw := gw_le rows ys N k
    clear HOw
    by_cases hlt : k < rows.length
    · obtain ⟨bl, off, rp, rq, rfl, hbl, hc, hpq, hrow⟩ := Hhr.out.at hlt
      obtain ⟨qb, qo, rfl, hql, hqc⟩ := Hhq.out.at (k := k) (by have := HL.out; omega)
      have HT9 := Lib.hid (HG.out.turn k hlt)
      have HRd := Lib.hid hrow
      replace hc := cell_below hbel hc hbl
      replace hqc := cell_below hbel hqc hql
      have HSN := Lib.hid (show next (gs rows ys N k) (rows.getD k []) (ys.getD k 0) = gs rows ys N (k + 1) from rfl)
      have HN := Lib.hid (gs_length rows ys N k)
      have i1 : (0 : Int) ≤ (k : Int) := by omega
      have i2 : (k : Int) < (rows.length : Int) := by omega
      have i3 : (k : Int) < (ys.length : Int) := by have := HL.out; omega
      clear hrow hpq hbel
      by_cases hs : says (gs rows ys N k) (rows.getD k []) = ys.getD k 0
      · have HGW := Lib.hid (gw_yes hs)
        have hdec : decide (says (gs rows ys N k) (rows.getD k []) = ys.getD k 0) = true := decide_eq_true hs
        clear hs
        generalize gs rows ys N k = ss at *
        generalize rows.getD k [] = r at *
        generalize ys.getD k 0 = y at *
        generalize gw rows ys N k = gg at *
        have e1 : IntKind.i64.wrap ((gg : Int) + 1) = ((gg + 1 : Nat) : Int) := by rw [IntWalk.i64_in _ (by omega)]; omega
        have HT := Lib.hid (show ∀ wa : World, (wa.cell? ⟨bl, off + k, none⟩ = some (.slice rp r.length rq) ∧ wa.cell? ⟨qb, qo + k, none⟩ = some (.int .i64 y) ∧ wr.heap.size ≤ wa.heap.size ∧ Below w.heap.size w wa) → OwnI w.heap.size wr.heap.size wa (.slice p1 ss.length q1) ss → Calls Try.prog 127 #[.slice p1 ss.length q1, .slice rp r.length rq, .int .i64 y] wa (fun e w' => ∃ (p2 : Option Addr) (q2 : Nat), e = .returned (.tuple #[.slice p2 (next ss r y).length q2, .bool true, .bool true]) ∧ OwnI w.heap.size w'.heap.size w' (.slice p2 (next ss r y).length q2) (next ss r y) ∧ w'.cell? ⟨bl, off + k, none⟩ = some (.slice rp r.length rq) ∧ w'.cell? ⟨qb, qo + k, none⟩ = some (.int .i64 y) ∧ wr.heap.size ≤ w'.heap.size ∧ Below w.heap.size w w') from fun wa hS hO => by
          have hwz := hS.2.2.1
          have hB := hS.2.2.2
          refine (impl_yes p1 ss q1 rp r rq y wa hO.reads (HRd.out.below hS.2.2.2) (by rw [HN.out]; omega) (by have := (Fit.of HT9.out).len; have := (Fit.of HT9.out).le; omega) HT9).mono ?_
          rintro e w' ⟨v', rfl, ho, hb⟩
          obtain ⟨p2, q2, rfl, _, _, _⟩ := ho.slice
          exact ⟨p2, q2, by rw [hdec], ho.mono (by omega) (Nat.le_refl _), cell_below hb hS.1 (by omega), cell_below hb hS.2.1 (by omega), Nat.le_trans hwz hb.size, hB.trans (hb.mono (by omega))⟩)
        clear hdec
        go_wp2_with fail
        refine (HT.out _ ⟨hc, hqc, Nat.le_refl _, HBl.out⟩ HO.out).mono ?_
        rintro e w2 ⟨p2, q2, rfl, ho2, hbx⟩
        have HO2 := Lib.hid ho2
        have HB2 := Lib.hid hbx.2.2.2
        clear ho2 hbx HT
        go_wp2_with fail
        go_roundw
        case rel => exact ⟨k + 1, by omega, by first | (rw [HGW.out]; done) | (rw [HGW.out]; rfl) | (rw [HGW.out]; congr 1), by go_num, Lib.hid (by rw [← HSN.out]; exact ⟨p2, q2, rfl, HO2.out⟩), HB2⟩
        case measure => simp [intOf]; omega
      · have HGW := Lib.hid (gw_no hs)
        have hdec : decide (says (gs rows ys N k) (rows.getD k []) = ys.getD k 0) = false := decide_eq_false hs
        clear hs
        generalize gs rows ys N k = ss at *
        generalize rows.getD k [] = r at *
        generalize ys.getD k 0 = y at *
        generalize gw rows ys N k = gg at *
        have e1 : IntKind.i64.wrap ((gg : Int) + 1) = ((gg + 1 : Nat) : Int) := by rw [IntWalk.i64_in _ (by omega)]; omega
        have HT := Lib.hid (show ∀ wa : World, (wa.cell? ⟨bl, off + k, none⟩ = some (.slice rp r.length rq) ∧ wa.cell? ⟨qb, qo + k, none⟩ = some (.int .i64 y) ∧ wr.heap.size ≤ wa.heap.size ∧ Below w.heap.size w wa) → OwnI w.heap.size wr.heap.size wa (.slice p1 ss.length q1) ss → Calls Try.prog 127 #[.slice p1 ss.length q1, .slice rp r.length rq, .int .i64 y] wa (fun e w' => ∃ (p2 : Option Addr) (q2 : Nat), e = .returned (.tuple #[.slice p2 (next ss r y).length q2, .bool false, .bool true]) ∧ OwnI w.heap.size w'.heap.size w' (.slice p2 (next ss r y).length q2) (next ss r y) ∧ w'.cell? ⟨bl, off + k, none⟩ = some (.slice rp r.length rq) ∧ w'.cell? ⟨qb, qo + k, none⟩ = some (.int .i64 y) ∧ wr.heap.size ≤ w'.heap.size ∧ Below w.heap.size w w') from fun wa hS hO => by
          have hwz := hS.2.2.1
          have hB := hS.2.2.2
          refine (impl_yes p1 ss q1 rp r rq y wa hO.reads (HRd.out.below hS.2.2.2) (by rw [HN.out]; omega) (by have := (Fit.of HT9.out).len; have := (Fit.of HT9.out).le; omega) HT9).mono ?_
          rintro e w' ⟨v', rfl, ho, hb⟩
          obtain ⟨p2, q2, rfl, _, _, _⟩ := ho.slice
          exact ⟨p2, q2, by rw [hdec], ho.mono (by omega) (Nat.le_refl _), cell_below hb hS.1 (by omega), cell_below hb hS.2.1 (by omega), Nat.le_trans hwz hb.size, hB.trans (hb.mono (by omega))⟩)
        clear hdec
        go_wp2_with fail
        refine (HT.out _ ⟨hc, hqc, Nat.le_refl _, HBl.out⟩ HO.out).mono ?_
        rintro e w2 ⟨p2, q2, rfl, ho2, hbx⟩
        have HO2 := Lib.hid ho2
        have HB2 := Lib.hid hbx.2.2.2
        clear ho2 hbx HT
        go_wp2_with fail
        go_roundw
        case rel => exact ⟨k + 1, by omega, by first | (rw [HGW.out]; done) | (rw [HGW.out]; rfl) | (rw [HGW.out]; congr 1), by go_num, Lib.hid (by rw [← HSN.out]; exact ⟨p2, q2, rfl, HO2.out⟩), HB2⟩
        case measure => simp [intOf]; omega
    · obtain rfl : k = rows.length := by omega
      have HF := Lib.hid (show RetINB (gs rows ys N rows.length) (gw rows ys N rows.length) true w (.returned (.tuple #[.slice p1 (gs rows ys N rows.length).length q1, .int .i64 (gw rows ys N rows.length), .bool true])) wr from ⟨_, rfl, HO.out, HBl.out⟩)
      generalize gs rows ys N rows.length = ss at *
      generalize gw rows ys N rows.length = gg at *
      clear hbel
      go_wp2_with fail
      go_ret3
      exact HF.out
theorem spec_no (n : Int) (a : Option Addr) (rows : List (List Int)) (c : Nat) (p : Option Addr) (ys : List Int) (q : Nat) (w : World) (hr : grid.Reads w a rows) (hq : ints.Reads .i64 w p ys) (hn : rows.length ≤ 1048576) (hm : ∀ r ∈ rows, r.length ≤ 1048576) (hw : ys.length ≤ 1048576) (h : rwB n rows ys = false) :
    Calls Try.prog 64 #[.int .i64 n, .slice a rows.length c, .slice p ys.length q] w (RetINB [] 0 false w) := by
  cases h1 : allB n rows
  · exact spec_no1 n a rows c p ys q w hr hq hn hm hw (Lib.hid h1)
  · refine spec_no2 n a rows c p ys q w hr hq hn hm hw (Lib.hid h1) (Lib.hid ?_)
    rw [rwB, h1] at h
    simpa using h
theorem impl_no (n : Int) (a : Option Addr) (rows : List (List Int)) (c : Nat) (p : Option Addr) (ys : List Int) (q : Nat) (w : World) (hr : grid.Reads w a rows) (hq : ints.Reads .i64 w p ys) (hn : rows.length ≤ 1048576) (hm : ∀ r ∈ rows, r.length ≤ 1048576) (hw : ys.length ≤ 1048576) (h : rwB n rows ys = false) :
    Calls Try.prog 66 #[.int .i64 n, .slice a rows.length c, .slice p ys.length q] w (RetINB [] 0 false w) := by
  cases h1 : allB n rows
  · exact impl_no1 n a rows c p ys q w hr hq hn hm hw (Lib.hid h1)
  · by_cases hl : ys.length = rows.length
    · refine impl_no3 n a rows c p ys q w hr hq hn hm hw (Lib.hid h1) hl (Lib.hid ?_)
      rw [rwB, h1, rowsB', hl] at h
      simpa using h
    · exact impl_no2 n a rows c p ys q w hr hq hn hm hw (Lib.hid h1) hl
theorem gs_ok {n : Int} {rows : List (List Int)} {ys : List Int} (h : rwB n rows ys = true) (k : Nat) : (gs rows ys n.toNat k).length ≤ 8 := by
  obtain ⟨N, rfl, hG⟩ := gf_of h
  rw [gs_length]
  exact hG.le
end Go.Proofs.Ytocbklmkphgkeaa.game
