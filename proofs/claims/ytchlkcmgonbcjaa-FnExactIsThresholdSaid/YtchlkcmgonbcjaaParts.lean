/- The walks of the model's size of weights and of what parts a table. -/
import Derived.Test.YtchlkcmgonbcjaaDots
import Derived.Test.YtchlkcmgonbcjaaBits
import Derived.Test.YtchlkcmgonbcjaaMost
import Derived.Test.YtchlkcmgonbcjaaTab
import Derived.BigQuiet
namespace Go.Proofs.Ytchlkcmgonbcjaa.parts
open Go.RowKit own pp nums range tab bitw most dots
set_option linter.unusedVariables false
set_option linter.unusedSimpArgs false

/-- Small weights. -/
def W3 (ws : List Int) : Prop := ∀ i, i < ws.length → -3 ≤ ws.getD i 0 ∧ ws.getD i 0 ≤ 3
def szTo (ws : List Int) : Nat → Int
  | 0 => 0
  | k + 1 => szTo ws k + max (ws.getD k 0) (-(ws.getD k 0))
def size (ws : List Int) : Int := szTo ws ws.length
theorem sz_bd {ws : List Int} (h : W3 ws) (k : Nat) (hk : k ≤ ws.length) : 0 ≤ szTo ws k ∧ szTo ws k ≤ 3 * k := by
  induction k with
  | zero => simp [szTo]
  | succ k ih =>
    have h1 := ih (by omega)
    have h2 := h k (by omega)
    unfold szTo
    omega
theorem w3_small {ws : List Int} (h : W3 ws) (k n : Nat) : Small ws (bitsTo k n) := by
  intro i hi
  have h1 := h i hi
  have h2 : (bitsTo k n).getD i 0 = 0 ∨ (bitsTo k n).getD i 0 = 1 := by
    unfold bitsTo
    rw [List.getD_eq_getElem?_getD, List.getElem?_map]
    cases hx : (List.range n)[i]? with
    | none => left; rfl
    | some j =>
      show ((k / 2 ^ j % 2 : Nat) : Int) = 0 ∨ ((k / 2 ^ j % 2 : Nat) : Int) = 1
      omega
  rcases h2 with e | e <;> rw [e] <;> omega
theorem w3_dot {ws : List Int} (h : W3 ws) (k n j : Nat) (hj : j ≤ ws.length) : -(3 * (j : Int)) ≤ dotTo ws (bitsTo k n) j ∧ dotTo ws (bitsTo k n) j ≤ 3 * j := by
  induction j with
  | zero => simp [dotTo_zero]
  | succ j ih =>
    have h0 := ih (by omega)
    have h1 := h j (by omega)
    have h2 : (bitsTo k n).getD j 0 = 0 ∨ (bitsTo k n).getD j 0 = 1 := by
      unfold bitsTo
      rw [List.getD_eq_getElem?_getD, List.getElem?_map]
      cases hx : (List.range n)[j]? with
      | none => left; rfl
      | some j' =>
        show ((k / 2 ^ j' % 2 : Nat) : Int) = 0 ∨ ((k / 2 ^ j' % 2 : Nat) : Int) = 1
        omega
    rw [dotTo_succ]
    rcases h2 with e | e <;> rw [e] <;> omega
/-- The product at a place. -/
def pr (ws : List Int) (n k : Nat) : Int := dot ws (bitsTo k n)
theorem pr_bd {ws : List Int} (h : W3 ws) (h4 : ws.length ≤ 4) (n k : Nat) : -12 ≤ pr ws n k ∧ pr ws n k ≤ 12 := by
  have := w3_dot h k n ws.length (Nat.le_refl _)
  unfold pr dot
  omega
/-- The numbers of ones and of other places, the least product of a one, the greatest of another place, among the first k. -/
structure St where
  o : Nat
  x : Nat
  l : Int
  m : Int
def st (n : Nat) (zs ws : List Int) : Nat → St
  | 0 => ⟨0, 0, 0, 0⟩
  | k + 1 =>
    let s := st n zs ws k
    if zs.getD k 0 = 1 then ⟨s.o + 1, s.x, if s.o = 0 ∨ pr ws n k < s.l then pr ws n k else s.l, s.m⟩
    else ⟨s.o, s.x + 1, s.l, if s.x = 0 ∨ s.m < pr ws n k then pr ws n k else s.m⟩
theorem st_one {n k : Nat} {zs ws : List Int} (h : zs.getD k 0 = 1) : st n zs ws (k + 1) = ⟨(st n zs ws k).o + 1, (st n zs ws k).x, if (st n zs ws k).o = 0 ∨ pr ws n k < (st n zs ws k).l then pr ws n k else (st n zs ws k).l, (st n zs ws k).m⟩ := by
  rw [st]; simp only [h, if_true]
theorem st_other {n k : Nat} {zs ws : List Int} (h : zs.getD k 0 ≠ 1) : st n zs ws (k + 1) = ⟨(st n zs ws k).o, (st n zs ws k).x + 1, (st n zs ws k).l, if (st n zs ws k).x = 0 ∨ (st n zs ws k).m < pr ws n k then pr ws n k else (st n zs ws k).m⟩ := by
  rw [st]; simp only [h, if_false]
theorem st_le (n k : Nat) (zs ws : List Int) : (st n zs ws k).o ≤ k ∧ (st n zs ws k).x ≤ k := by
  induction k with
  | zero => exact ⟨Nat.le_refl _, Nat.le_refl _⟩
  | succ k ih =>
    by_cases h : zs.getD k 0 = 1
    · rw [st_one h]; exact ⟨by show _ + 1 ≤ _; omega, by show _ ≤ _; have := ih.2; simp only; omega⟩
    · rw [st_other h]; exact ⟨by have := ih.1; simp only; omega, by show _ + 1 ≤ _; omega⟩
def partsB (n : Nat) (zs ws : List Int) : Bool := (decide ((st n zs ws zs.length).o = 0) || decide ((st n zs ws zs.length).x = 0)) || decide ((st n zs ws zs.length).m < (st n zs ws zs.length).l)
set_option maxRecDepth 100000 in
set_option maxHeartbeats 4000000 in
theorem spec_size (a : Option Addr) (ws : List Int) (c : Nat) (w : World) (hr : ints.Reads .i64 w a ws) (h4 : ws.length ≤ 4) (hW : W3 ws) :
    Calls Try.prog 79 #[.slice a ws.length c] w (fun e w' => e = .returned (.int .i64 (size ws)) ∧ ∃ m, w' = w.drewN m) := by
  have HW := Lib.hid hW
  clear hW
  go_enter Try.func79, Try.ntmps79
  go_wp2_with fail
  go_loopw [3, 4] (fun s i wr => ∃ k : Nat, k ≤ ws.length ∧ i = .int .i64 k ∧ s = .int .i64 (szTo ws k) ∧ ∃ m, wr = w.drewN m) (fun _ i _ => ws.length - (intOf i).toNat)
  case atStart => exact ⟨0, Nat.zero_le _, rfl, rfl, 0, rfl⟩
  case round =>
    obtain ⟨k, hk, rfl, rfl, m, rfl⟩ := hrel
    by_cases hlt : k < ws.length
    · obtain ⟨b, off, rfl, hb, hc⟩ := hr.at hlt
      replace hc : (w.drewN m).cell? ⟨b, off + k, none⟩ = some (.int .i64 (ws.getD k 0)) := hc
      have hz := HW.out k hlt
      have hs := sz_bd HW.out k hk
      have HS := Lib.hid (show szTo ws (k + 1) = szTo ws k + max (ws.getD k 0) (-(ws.getD k 0)) from rfl)
      have i1 : (0 : Int) ≤ (k : Int) := by omega
      have i2 : (k : Int) < (ws.length : Int) := by omega
      have HM := Lib.hid (show ∀ n, ∃ q, (w.drewN m).drewN n = w.drewN q from fun n => ⟨_, World.drewN_drewN _ _ _⟩)
      generalize ws.getD k 0 = z at *
      generalize szTo ws k = s at *
      generalize w.drewN m = wm at *
      have HC := Lib.hid (fun (q : Nat) => (most_any z (-z) (wm.drewN q)).mono (R' := fun e w' => e = .returned (.int .i64 (max z (-z))) ∧ ∃ m, w' = wm.drewN m) (fun _ _ h => ⟨h.1, q, h.2⟩))
      have hmx : 0 ≤ max z (-z) ∧ max z (-z) ≤ 3 := by omega
      generalize max z (-z) = y at *
      go_wp2_with fail
      go_quiet ((go_at_call 48; exact HC.out _))
      go_wp2_with fail
      go_roundw
      case rel => exact ⟨k + 1, by omega, by go_num, by rw [HS.out], HM.out _⟩
      case measure => simp [intOf]; omega
    · obtain rfl : k = ws.length := by omega
      go_wp2_with fail
      go_ret
      exact ⟨rfl, m, rfl⟩
set_option maxRecDepth 100000 in
set_option maxHeartbeats 4000000 in
theorem spec_parts (n : Nat) (a : Option Addr) (zs : List Int) (c : Nat) (p : Option Addr) (ws : List Int) (q : Nat) (w : World) (hr : ints.Reads .i64 w a zs) (hq : ints.Reads .i64 w p ws) (hk : tab.tabB n zs = true) (hl : ws.length = n) (hW : W3 ws) :
    Calls Try.prog 80 #[.int .i64 n, .slice a zs.length c, .slice p ws.length q] w (fun e w' => e = .returned (.tuple #[.int .i64 (st n zs ws zs.length).l, .int .i64 (st n zs ws zs.length).m, .bool (partsB n zs ws)]) ∧ Below w.heap.size w w') := by
  obtain ⟨m0, he, h4, hpw, h16, hrg⟩ := tab_nat hk
  obtain rfl : n = m0 := by omega
  have HW := Lib.hid hW
  have HR := Lib.hid hr
  have HQ := Lib.hid hq
  have HA := Lib.hid (tab_at hk)
  have HLn := Lib.hid hl
  have hl4 : ws.length ≤ 4 := by omega
  have HPB := Lib.hid (show partsB n zs ws = ((decide ((st n zs ws zs.length).o = 0) || decide ((st n zs ws zs.length).x = 0)) || decide ((st n zs ws zs.length).m < (st n zs ws zs.length).l)) from rfl)
  clear hk hpw hrg he hW hr hq hl
  go_enter Try.func80, Try.ntmps80
  go_wp2_with fail
  go_loopw [9, 10, 11, 12, 13] (fun o x l m i wr => ∃ k : Nat, k ≤ zs.length ∧ i = .int .i64 k ∧ o = .int .i64 ((st n zs ws k).o : Nat) ∧ x = .int .i64 ((st n zs ws k).x : Nat) ∧ l = .int .i64 (st n zs ws k).l ∧ m = .int .i64 (st n zs ws k).m ∧ Below w.heap.size w wr) (fun _ _ _ _ i _ => zs.length - (intOf i).toNat)
  case atStart => exact ⟨0, Nat.zero_le _, rfl, rfl, rfl, rfl, rfl, Below.refl _ _⟩
  case round =>
    obtain ⟨k, hk, rfl, rfl, rfl, rfl, rfl, hbel⟩ := hrel
    have HBl := Lib.hid hbel
    have hsz := hbel.size
    clear hbel
    by_cases hlt : k < zs.length
    · have hst := st_le n k zs ws
      have hpb := pr_bd HW.out hl4 n k
      have HS1 := Lib.hid (fun h => st_one (n := n) (k := k) (zs := zs) (ws := ws) h)
      have HS2 := Lib.hid (fun h => st_other (n := n) (k := k) (zs := zs) (ws := ws) h)
      have HCB := Lib.hid (spec_bits n k wr h4 (by omega))
      have hz := HA.out k hlt
      have HPR := Lib.hid (show pr ws n k = dot ws (bitsTo k n) from rfl)
      have i1 : (0 : Int) ≤ (k : Int) := by omega
      have i2 : (k : Int) < (zs.length : Int) := by omega
      go_wp2_with fail
      refine HCB.out.mono ?_
      rintro e w1 ⟨v, rfl, hov, hb1⟩
      obtain ⟨pa, pc, hv, hrp, _, _⟩ := hov.slice
      subst hv
      have HC1 := Lib.hid (spec_dot p ws q pa (bitsTo k n) pc w1 ((HQ.out.below HBl.out).below hb1) hrp (by omega) (by rw [bitsTo_length]; have := HLn.out; omega) (by rw [bitsTo_length]; omega) (w3_small HW.out k n))
      have HB1 := Lib.hid (HBl.out.trans (hb1.mono hsz))
      clear hov hb1 hrp HCB
      rw [← HPR.out] at HC1
      clear HPR
      go_wp2_with fail
      refine HC1.out.mono ?_
      rintro e w2' ⟨rfl, m2, rfl⟩
      have HB2 := Lib.hid (ints.below_drewN HB1.out m2)
      clear HC1 HB1
      generalize w1.drewN m2 = w2 at *
      obtain ⟨bz, oz, hae, hbz, hc⟩ := (HR.out.below HB2.out).at hlt
      subst hae
      generalize pr ws n k = y at *
      obtain ⟨s, hs⟩ : ∃ s, s = st n zs ws k := ⟨_, rfl⟩
      rw [← hs] at hst HS1 HS2 ⊢
      clear hs
      obtain ⟨so, sx, sl, sm⟩ := s
      simp only [] at hst HS1 HS2 ⊢
      rcases hz with hz | hz
      · have HST := Lib.hid (HS2.out (by rw [hz]; decide))
        rw [hz] at hc
        clear hz HS1 HS2
        by_cases hx0 : sx = 0
        · subst hx0
          rw [if_pos (.inl rfl)] at HST
          go_wp2_with fail
          go_roundw
          case rel => exact ⟨k + 1, by omega, by go_num, by rw [HST.out], by rw [HST.out] <;> go_num, by rw [HST.out], by rw [HST.out], HB2.out⟩
          case measure => simp [intOf]; omega
        · have g0 : ((sx : Int) == 0) = false := by rw [beq_eq_false_iff_ne]; omega
          by_cases hlt3 : sm < y
          · rw [if_pos (.inr hlt3)] at HST
            go_wp2_with fail
            go_roundw
            case rel => exact ⟨k + 1, by omega, by go_num, by rw [HST.out], by rw [HST.out] <;> go_num, by rw [HST.out], by rw [HST.out], HB2.out⟩
            case measure => simp [intOf]; omega
          · rw [if_neg (by omega)] at HST
            go_wp2_with fail
            go_roundw
            case rel => exact ⟨k + 1, by omega, by go_num, by rw [HST.out], by rw [HST.out] <;> go_num, by rw [HST.out], by rw [HST.out], HB2.out⟩
            case measure => simp [intOf]; omega
      · have HST := Lib.hid (HS1.out hz)
        rw [hz] at hc
        clear hz HS1 HS2
        by_cases hx0 : so = 0
        · subst hx0
          rw [if_pos (.inl rfl)] at HST
          go_wp2_with fail
          go_roundw
          case rel => exact ⟨k + 1, by omega, by go_num, by rw [HST.out] <;> go_num, by rw [HST.out], by rw [HST.out], by rw [HST.out], HB2.out⟩
          case measure => simp [intOf]; omega
        · have g0 : ((so : Int) == 0) = false := by rw [beq_eq_false_iff_ne]; omega
          by_cases hlt3 : y < sl
          · rw [if_pos (.inr hlt3)] at HST
            go_wp2_with fail
            go_roundw
            case rel => exact ⟨k + 1, by omega, by go_num, by rw [HST.out] <;> go_num, by rw [HST.out], by rw [HST.out], by rw [HST.out], HB2.out⟩
            case measure => simp [intOf]; omega
          · rw [if_neg (by omega)] at HST
            go_wp2_with fail
            go_roundw
            case rel => exact ⟨k + 1, by omega, by go_num, by rw [HST.out] <;> go_num, by rw [HST.out], by rw [HST.out], by rw [HST.out], HB2.out⟩
            case measure => simp [intOf]; omega
    · obtain rfl : k = zs.length := by omega
      obtain ⟨s, hs⟩ : ∃ s, s = st n zs ws zs.length := ⟨_, rfl⟩
      rw [← hs] at HPB ⊢
      obtain ⟨so, sx, sl, sm⟩ := s
      have HFIN := Lib.hid (show ∀ (b : Bool), b = partsB n zs ws → Ending.returned (.tuple #[.int .i64 sl, .int .i64 sm, .bool b]) = Ending.returned (.tuple #[.int .i64 (st n zs ws zs.length).l, .int .i64 (st n zs ws zs.length).m, .bool (partsB n zs ws)]) from fun b h => by rw [← hs, h])
      clear hs
      simp only [] at HPB ⊢
      by_cases h1 : so = 0
      · subst h1
        have HOK := Lib.hid (show true = partsB n zs ws by rw [HPB.out]; rfl)
        go_wp2_with fail
        go_ret3
        exact ⟨HFIN.out _ HOK.out, HBl.out⟩
      · have g1 : ((so : Int) == 0) = false := by rw [beq_eq_false_iff_ne]; omega
        by_cases h2 : sx = 0
        · subst h2
          have HOK := Lib.hid (show true = partsB n zs ws by rw [HPB.out]; simp)
          go_wp2_with fail
          go_ret3
          exact ⟨HFIN.out _ HOK.out, HBl.out⟩
        · have g2 : ((sx : Int) == 0) = false := by rw [beq_eq_false_iff_ne]; omega
          have HPC := Lib.hid (show decide (sm < sl) = partsB n zs ws by rw [HPB.out, decide_eq_false h1, decide_eq_false h2]; rfl)
          clear HPB h1 h2
          go_wp2_with fail
          go_ret3
          exact ⟨HFIN.out _ HPC.out, HBl.out⟩
end Go.Proofs.Ytchlkcmgonbcjaa.parts
