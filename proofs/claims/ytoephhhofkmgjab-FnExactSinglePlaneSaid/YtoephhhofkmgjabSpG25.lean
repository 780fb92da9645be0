/- Several texts in one. -/
import Derived.BigQuiet
import Derived.Test.YtoephhhofkmgjabSpG14
import Derived.Test.YtoephhhofkmgjabSpG15
import Derived.Test.YtoephhhofkmgjabSpG6
import Derived.Test.YtoephhhofkmgjabSpG12
import Derived.Test.YtoephhhofkmgjabSpG17
import Derived.Test.YtoephhhofkmgjabSpG0
import Derived.Test.YtoephhhofkmgjabSpG18
namespace Go.Proofs.Ytoephhhofkmgjab.parts
open Go.RowKit own pp nums range tab bitw most dots
set_option linter.unusedVariables false
set_option linter.unusedSimpArgs false

/-- Small weights. -/
def W3 (ws : List Int) : Prop := ∀ i, i < ws.length → -3 ≤ ws.getD i 0 ∧ ws.getD i 0 ≤ 3
def szTo (ws : List Int) : Nat → Int
  | 0 => 0
  | k + 1 => szTo ws k + max (ws.getD k 0) (-(ws.getD k 0))
def size (ws : List Int) : Int := szTo ws ws.length
theorem sz_bd {ws : List Int} (h : W3 ws) (k : Nat) (hk : k ≤ ws.length) : 0 ≤ szTo ws k ∧ szTo ws k ≤ 3 * k := by
  induction k with
  | zero => simp [szTo]
  | succ k ih =>
    have h1 := ih (by omega)
    have h2 := h k (by omega)
    unfold szTo
    omega
theorem w3_small {ws : List Int} (h : W3 ws) (k n : Nat) : Small ws (bitsTo k n) := by
  intro i hi
  have h1 := h i hi
  have h2 : (bitsTo k n).getD i 0 = 0 ∨ (bitsTo k n).getD i 0 = 1 := by
    unfold bitsTo
    rw [List.getD_eq_getElem?_getD, List.getElem?_map]
    cases hx : (List.range n)[i]? with
    | none => left; rfl
    | some j =>
      show ((k / 2 ^ j % 2 : Nat) : Int) = 0 ∨ ((k / 2 ^ j % 2 : Nat) : Int) = 1
      omega
  rcases h2 with e | e <;> rw [e] <;> omega
theorem w3_dot {ws : List Int} (h : W3 ws) (k n j : Nat) (hj : j ≤ ws.length) : -(3 * (j : Int)) ≤ dotTo ws (bitsTo k n) j ∧ dotTo ws (bitsTo k n) j ≤ 3 * j := by
  induction j with
  | zero => simp [dotTo_zero]
  | succ j ih =>
    have h0 := ih (by omega)
    have h1 := h j (by omega)
    have h2 : (bitsTo k n).getD j 0 = 0 ∨ (bitsTo k n).getD j 0 = 1 := by
      unfold bitsTo
      rw [List.getD_eq_getElem?_getD, List.getElem?_map]
      cases hx : (List.range n)[j]? with
      | none => left; rfl
      | some j' =>
        show ((k / 2 ^ j' % 2 : Nat) : Int) = 0 ∨ ((k / 2 ^ j' % 2 : Nat) : Int) = 1
        omega
    rw [dotTo_succ]
    rcases h2 with e | e <;> rw [e] <;> omega
/-- The product at a place. -/
def pr (ws : List Int) (n k : Nat) : Int := dot ws (bitsTo k n)
theorem pr_bd {ws : List Int} (h : W3 ws) (h4 : ws.length ≤ 4) (n k : Nat) : -12 ≤ pr ws n k ∧ pr ws n k ≤ 12 := by
  have := w3_dot h k n ws.length (Nat.le_refl _)
  unfold pr dot
  omega
/-- The numbers of ones and of other places, the least product of a one, the greatest of another place, among the first k. -/
structure St where
  o : Nat
  x : Nat
  l : Int
  m : Int
def st (n : Nat) (zs ws : List Int) : Nat → St
  | 0 => ⟨0, 0, 0, 0⟩
  | k + 1 =>
    let s := st n zs ws k
    if zs.getD k 0 = 1 then ⟨s.o + 1, s.x, if s.o = 0 ∨ pr ws n k < s.l then pr ws n k else s.l, s.m⟩
    else ⟨s.o, s.x + 1, s.l, if s.x = 0 ∨ s.m < pr ws n k then pr ws n k else s.m⟩
theorem st_one {n k : Nat} {zs ws : List Int} (h : zs.getD k 0 = 1) : st n zs ws (k + 1) = ⟨(st n zs ws k).o + 1, (st n zs ws k).x, if (st n zs ws k).o = 0 ∨ pr ws n k < (st n zs ws k).l then pr ws n k else (st n zs ws k).l, (st n zs ws k).m⟩ := by
  rw [st]; simp only [h, if_true]
theorem st_other {n k : Nat} {zs ws : List Int} (h : zs.getD k 0 ≠ 1) : st n zs ws (k + 1) = ⟨(st n zs ws k).o, (st n zs ws k).x + 1, (st n zs ws k).l, if (st n zs ws k).x = 0 ∨ (st n zs ws k).m < pr ws n k then pr ws n k else (st n zs ws k).m⟩ := by
  rw [st]; simp only [h, if_false]
theorem st_le (n k : Nat) (zs ws : List Int) : (st n zs ws k).o ≤ k ∧ (st n zs ws k).x ≤ k := by
  induction k with
  | zero => exact ⟨Nat.le_refl _, Nat.le_refl _⟩
  | succ k ih =>
    by_cases h : zs.getD k 0 = 1
    · rw [st_one h]; exact ⟨by show _ + 1 ≤ _; omega, by show _ ≤ _; have := ih.2; simp only; omega⟩
    · rw [st_other h]; exact ⟨by have := ih.1; simp only; omega, by show _ + 1 ≤ _; omega⟩
def partsB (n : Nat) (zs ws : List Int) : Bool := (decide ((st n zs ws zs.length).o = 0) || decide ((st n zs ws zs.length).x = 0)) || decide ((st n zs ws zs.length).m < (st n zs ws zs.length).l)
set_option maxRecDepth 100000 in
set_option maxHeartbeats 4000000 in
theorem spec_size (a : Option Addr) (ws : List Int) (c : Nat) (w : World) (hr : ints.Reads .i64 w a ws) (h4 : ws.length ≤ 4) (hW : W3 ws) :
    Calls Try.prog 113 #[.slice a ws.length c] w (fun e w' => e = .returned (.int .i64 (size ws)) ∧ ∃ m, w' = w.drewN m) := by
  have HW := Lib.hid hW
  clear hW
  go_enter Try.func113, Try.ntmps113
  go_wp2_with fail
  go_loopw [3, 4] (fun s i wr => ∃ k : Nat, k ≤ ws.length ∧ i = .int .i64 k ∧ s = .int .i64 (szTo ws k) ∧ ∃ m, wr = w.drewN m) (fun _ i _ => ws.length - (intOf i).toNat)
  case atStart => exact ⟨0, Nat.zero_le _, rfl, rfl, 0, rfl⟩
  case round =>
    obtain ⟨k, hk, rfl, rfl, m, rfl⟩ := hrel
    by_cases hlt : k < ws.length
    · obtain ⟨b, off, rfl, hb, hc⟩ := hr.at hlt
      replace hc : (w.drewN m).cell? ⟨b, off + k, none⟩ = some (.int .i64 (ws.getD k 0)) := hc
      have hz := HW.out k hlt
      have hs := sz_bd HW.out k hk
      have HS := Lib.hid (show szTo ws (k + 1) = szTo ws k + max (ws.getD k 0) (-(ws.getD k 0)) from rfl)
      have i1 : (0 : Int) ≤ (k : Int) := by omega
      have i2 : (k : Int) < (ws.length : Int) := by omega
      have HM := Lib.hid (show ∀ n, ∃ q, (w.drewN m).drewN n = w.drewN q from fun n => ⟨_, World.drewN_drewN _ _ _⟩)
      generalize ws.getD k 0 = z at *
      generalize szTo ws k = s at *
      generalize w.drewN m = wm at *
      have HC := Lib.hid (fun (q : Nat) => (most_any z (-z) (wm.drewN q)).mono (R' := fun e w' => e = .returned (.int .i64 (max z (-z))) ∧ ∃ m, w' = wm.drewN m) (fun _ _ h => ⟨h.1, q, h.2⟩))
      have hmx : 0 ≤ max z (-z) ∧ max z (-z) ≤ 3 := by omega
      generalize max z (-z) = y at *
      go_wp2_with fail
      go_quiet ((go_at_call 135; exact HC.out _))
      go_wp2_with fail
      go_roundw
      case rel => exact ⟨k + 1, by omega, by go_num, by rw [HS.out], HM.out _⟩
      case measure => simp [intOf]; omega
    · obtain rfl : k = ws.length := by omega
      go_wp2_with fail
      go_ret
      exact ⟨rfl, m, rfl⟩
set_option maxRecDepth 100000 in
set_option maxHeartbeats 4000000 in
theorem spec_parts (n : Nat) (a : Option Addr) (zs : List Int) (c : Nat) (p : Option Addr) (ws : List Int) (q : Nat) (w : World) (hr : ints.Reads .i64 w a zs) (hq : ints.Reads .i64 w p ws) (hk : tab.tabB n zs = true) (hl : ws.length = n) (hW : W3 ws) :
    Calls Try.prog 80 #[.int .i64 n, .slice a zs.length c, .slice p ws.length q] w (fun e w' => e = .returned (.tuple #[.int .i64 (st n zs ws zs.length).l, .int .i64 (st n zs ws zs.length).m, .bool (partsB n zs ws)]) ∧ Below w.heap.size w w') := by
  obtain ⟨m0, he, h4, hpw, h16, hrg⟩ := tab_nat hk
  obtain rfl : n = m0 := by omega
  have HW := Lib.hid hW
  have HR := Lib.hid hr
  have HQ := Lib.hid hq
  have HA := Lib.hid (tab_at hk)
  have HLn := Lib.hid hl
  have hl4 : ws.length ≤ 4 := by omega
  have HPB := Lib.hid (show partsB n zs ws = ((decide ((st n zs ws zs.length).o = 0) || decide ((st n zs ws zs.length).x = 0)) || decide ((st n zs ws zs.length).m < (st n zs ws zs.length).l)) from rfl)
  clear hk hpw hrg he hW hr hq hl
  go_enter Try.func80, Try.ntmps80
  go_wp2_with fail
  go_loopw [9, 10, 11, 12, 13] (fun o x l m i wr => ∃ k : Nat, k ≤ zs.length ∧ i = .int .i64 k ∧ o = .int .i64 ((st n zs ws k).o : Nat) ∧ x = .int .i64 ((st n zs ws k).x : Nat) ∧ l = .int .i64 (st n zs ws k).l ∧ m = .int .i64 (st n zs ws k).m ∧ Below w.heap.size w wr) (fun _ _ _ _ i _ => zs.length - (intOf i).toNat)
  case atStart => exact ⟨0, Nat.zero_le _, rfl, rfl, rfl, rfl, rfl, Below.refl _ _⟩
  case round =>
    obtain ⟨k, hk, rfl, rfl, rfl, rfl, rfl, hbel⟩ := hrel
    have HBl := Lib.hid hbel
    have hsz := hbel.size
    clear hbel
    by_cases hlt : k < zs.length
    · have hst := st_le n k zs ws
      have hpb := pr_bd HW.out hl4 n k
      have HS1 := Lib.hid (fun h => st_one (n := n) (k := k) (zs := zs) (ws := ws) h)
      have HS2 := Lib.hid (fun h => st_other (n := n) (k := k) (zs := zs) (ws := ws) h)
      have HCB := Lib.hid (spec_bits n k wr h4 (by omega))
      have hz := HA.out k hlt
      have HPR := Lib.hid (show pr ws n k = dot ws (bitsTo k n) from rfl)
      have i1 : (0 : Int) ≤ (k : Int) := by omega
      have i2 : (k : Int) < (zs.length : Int) := by omega
      go_wp2_with fail
      refine HCB.out.mono ?_
      rintro e w1 ⟨v, rfl, hov, hb1⟩
      obtain ⟨pa, pc, hv, hrp, _, _⟩ := hov.slice
      subst hv
      have HC1 := Lib.hid (spec_dot p ws q pa (bitsTo k n) pc w1 ((HQ.out.below HBl.out).below hb1) hrp (by omega) (by rw [bitsTo_length]; have := HLn.out; omega) (by rw [bitsTo_length]; omega) (w3_small HW.out k n))
      have HB1 := Lib.hid (HBl.out.trans (hb1.mono hsz))
      clear hov hb1 hrp HCB
      rw [← HPR.out] at HC1
      clear HPR
      go_wp2_with fail
      refine HC1.out.mono ?_
      rintro e w2' ⟨rfl, m2, rfl⟩
      have HB2 := Lib.hid (ints.below_drewN HB1.out m2)
      clear HC1 HB1
      generalize w1.drewN m2 = w2 at *
      obtain ⟨bz, oz, hae, hbz, hc⟩ := (HR.out.below HB2.out).at hlt
      subst hae
      generalize pr ws n k = y at *
      obtain ⟨s, hs⟩ : ∃ s, s = st n zs ws k := ⟨_, rfl⟩
      rw [← hs] at hst HS1 HS2 ⊢
      clear hs
      obtain ⟨so, sx, sl, sm⟩ := s
      simp only [] at hst HS1 HS2 ⊢
      rcases hz with hz | hz
      · have HST := Lib.hid (HS2.out (by rw [hz]; decide))
        rw [hz] at hc
        clear hz HS1 HS2
        by_cases hx0 : sx = 0
        · subst hx0
          rw [if_pos (.inl rfl)] at HST
          go_wp2_with fail
          go_roundw
          case rel => exact ⟨k + 1, by omega, by go_num, by rw [HST.out], by rw [HST.out] <;> go_num, by rw [HST.out], by rw [HST.out], HB2.out⟩
          case measure => simp [intOf]; omega
        · have g0 : ((sx : Int) == 0) = false := by rw [beq_eq_false_iff_ne]; omega
          by_cases hlt3 : sm < y
          · rw [if_pos (.inr hlt3)] at HST
            go_wp2_with fail
            go_roundw
            case rel => exact ⟨k + 1, by omega, by go_num, by rw [HST.out], by rw [HST.out] <;> go_num, by rw [HST.out], by rw [HST.out], HB2.out⟩
            case measure => simp [intOf]; omega
          · rw [if_neg (by omega)] at HST
            go_wp2_with fail
            go_roundw
            case rel => exact ⟨k + 1, by omega, by go_num, by rw [HST.out], by rw [HST.out] <;> go_num, by rw [HST.out], by rw [HST.out], HB2.out⟩
            case measure => simp [intOf]; omega
      · have HST := Lib.hid (HS1.out hz)
        rw [hz] at hc
        clear hz HS1 HS2
        by_cases hx0 : so = 0
        · subst hx0
          rw [if_pos (.inl rfl)] at HST
          go_wp2_with fail
          go_roundw
          case rel => exact ⟨k + 1, by omega, by go_num, by rw [HST.out] <;> go_num, by rw [HST.out], by rw [HST.out], by rw [HST.out], HB2.out⟩
          case measure => simp [intOf]; omega
        · have g0 : ((so : Int) == 0) = false := by rw [beq_eq_false_iff_ne]; omega
          by_cases hlt3 : y < sl
          · rw [if_pos (.inr hlt3)] at HST
            go_wp2_with fail
            go_roundw
            case rel => exact ⟨k + 1, by omega, by go_num, by rw [HST.out] <;> go_num, by rw [HST.out], by rw [HST.out], by rw [HST.out], HB2.out⟩
            case measure => simp [intOf]; omega
          · rw [if_neg (by omega)] at HST
            go_wp2_with fail
            go_roundw
            case rel => exact ⟨k + 1, by omega, by go_num, by rw [HST.out] <;> go_num, by rw [HST.out], by rw [HST.out], by rw [HST.out], HB2.out⟩
            case measure => simp [intOf]; omega
    · obtain rfl : k = zs.length := by omega
      obtain ⟨s, hs⟩ : ∃ s, s = st n zs ws zs.length := ⟨_, rfl⟩
      rw [← hs] at HPB ⊢
      obtain ⟨so, sx, sl, sm⟩ := s
      have HFIN := Lib.hid (show ∀ (b : Bool), b = partsB n zs ws → Ending.returned (.tuple #[.int .i64 sl, .int .i64 sm, .bool b]) = Ending.returned (.tuple #[.int .i64 (st n zs ws zs.length).l, .int .i64 (st n zs ws zs.length).m, .bool (partsB n zs ws)]) from fun b h => by rw [← hs, h])
      clear hs
      simp only [] at HPB ⊢
      by_cases h1 : so = 0
      · subst h1
        have HOK := Lib.hid (show true = partsB n zs ws by rw [HPB.out]; rfl)
        go_wp2_with fail
        go_ret3
        exact ⟨HFIN.out _ HOK.out, HBl.out⟩
      · have g1 : ((so : Int) == 0) = false := by rw [beq_eq_false_iff_ne]; omega
        by_cases h2 : sx = 0
        · subst h2
          have HOK := Lib.hid (show true = partsB n zs ws by rw [HPB.out]; simp)
          go_wp2_with fail
          go_ret3
          exact ⟨HFIN.out _ HOK.out, HBl.out⟩
        · have g2 : ((sx : Int) == 0) = false := by rw [beq_eq_false_iff_ne]; omega
          have HPC := Lib.hid (show decide (sm < sl) = partsB n zs ws by rw [HPB.out, decide_eq_false h1, decide_eq_false h2]; rfl)
          clear HPB h1 h2
          go_wp2_with fail
          go_ret3
          exact ⟨HFIN.out _ HPC.out, HBl.out⟩
end Go.Proofs.Ytoephhhofkmgjab.parts

namespace Go.Proofs.Ytoephhhofkmgjab.least5
open Go.RowKit own pp nums range tab bitw parts wts
set_option linter.unusedVariables false
set_option linter.unusedSimpArgs false

/-- The best of the first i weights, and whether there is one. -/
def bs (n : Nat) (zs : List Int) (rows : List (List Int)) : Nat → List Int × Bool
  | 0 => ([], false)
  | i + 1 => if (bs n zs rows i).2 = true ∧ size (bs n zs rows i).1 ≤ size (rows.getD i []) then bs n zs rows i else if partsB n zs (rows.getD i []) = true then (rows.getD i [], true) else bs n zs rows i
theorem bs_keep {n i : Nat} {zs : List Int} {rows : List (List Int)} (h1 : (bs n zs rows i).2 = true) (h2 : size (bs n zs rows i).1 ≤ size (rows.getD i [])) : bs n zs rows (i + 1) = bs n zs rows i := by rw [bs, if_pos ⟨h1, h2⟩]
theorem bs_no {n i : Nat} {zs : List Int} {rows : List (List Int)} (h : partsB n zs (rows.getD i []) = false) : bs n zs rows (i + 1) = bs n zs rows i := by
  rw [bs]
  split
  · rfl
  · rw [if_neg (by rw [h]; simp)]
theorem bs_take {n i : Nat} {zs : List Int} {rows : List (List Int)} (h1 : ¬ ((bs n zs rows i).2 = true ∧ size (bs n zs rows i).1 ≤ size (rows.getD i []))) (h : partsB n zs (rows.getD i []) = true) : bs n zs rows (i + 1) = (rows.getD i [], true) := by rw [bs, if_neg h1, if_pos h]
theorem bs_found (n : Nat) (zs : List Int) (rows : List (List Int)) (i : Nat) : (bs n zs rows i).2 = true ↔ ∃ j, j < i ∧ partsB n zs (rows.getD j []) = true := by
  induction i with
  | zero => simp [bs]
  | succ i ih =>
    cases hp : partsB n zs (rows.getD i [])
    · rw [bs_no hp, ih]
      constructor
      · rintro ⟨j, hj, h⟩; exact ⟨j, by omega, h⟩
      · rintro ⟨j, hj, h⟩
        by_cases e : j = i
        · subst e; rw [hp] at h; cases h
        · exact ⟨j, by omega, h⟩
    · by_cases hk : (bs n zs rows i).2 = true ∧ size (bs n zs rows i).1 ≤ size (rows.getD i [])
      · rw [bs_keep hk.1 hk.2]
        exact ⟨fun _ => ⟨i, by omega, hp⟩, fun _ => hk.1⟩
      · rw [bs_take hk hp]
        exact ⟨fun _ => ⟨i, by omega, hp⟩, fun _ => rfl⟩
theorem bs_row (n : Nat) (zs : List Int) (rows : List (List Int)) (i : Nat) (hi : i ≤ rows.length) : (bs n zs rows i).1 = [] ∨ (bs n zs rows i).1 ∈ rows := by
  induction i with
  | zero => left; rfl
  | succ i ih =>
    have h1 := ih (by omega)
    rw [bs]
    split
    · exact h1
    · split
      · right
        show rows.getD i [] ∈ rows
        rw [List.getD_eq_getElem?_getD, List.getElem?_eq_getElem (by omega)]
        exact List.getElem_mem (by omega)
      · exact h1
theorem w3_row {n : Nat} {r : List Int} (h : r ∈ wts n) : W3 r := by
  intro i hi
  refine (wts_row h).2 _ ?_
  rw [List.getD_eq_getElem?_getD, List.getElem?_eq_getElem hi]
  exact List.getElem_mem hi
theorem w3_nil : W3 [] := fun i hi => by simp at hi
/-- A row of an own list of lists, as it is loaded. -/
theorem ownG_at {lo hi : Nat} {w : World} {a : Option Addr} {m c : Nat} {rows : List (List Int)} (h : OwnG lo hi w (.slice a m c) rows) {i : Nat} (hi' : i < rows.length) :
    ∃ b off p q, a = some ⟨b, off, none⟩ ∧ b < w.heap.size ∧ w.cell? ⟨b, off + i, none⟩ = some (.slice p (rows.getD i []).length q) ∧ OwnI lo hi w (.slice p (rows.getD i []).length q) (rows.getD i []) := by
  obtain ⟨cs, h1, h2, hl, ho, hd⟩ := h
  rcases h1.2 with ⟨hv, h0⟩ | ⟨g, cap, cur, hv, hb, hh, hn, hm, hs, ht⟩
  · omega
  · cases hv
    obtain ⟨p, q, hv, hr, hc, _⟩ := (ho i hi').slice
    have hx := h1.cells (g := g) rfl i (cs.getD i undef) (by rw [List.getD_eq_getElem?_getD, List.getElem?_eq_getElem (by omega)]; simp)
    rw [Go.WideShapes.add_plain] at hx
    have hoi := ho i hi'
    rw [hv] at hx hoi
    exact ⟨g, 0, p, q, rfl, (Array.getElem?_eq_some_iff.1 hh).1, hx, hoi⟩
set_option maxRecDepth 100000 in
set_option maxHeartbeats 4000000 in
theorem spec_least (n : Nat) (a : Option Addr) (zs : List Int) (c : Nat) (w : World) (hr : ints.Reads .i64 w a zs) (hk : tab.tabB n zs = true) :
    Calls Try.prog 79 #[.int .i64 n, .slice a zs.length c] w (RetIB (bs n zs (wts n) (wts n).length).1 (bs n zs (wts n) (wts n).length).2 w) := by
  obtain ⟨m0, he, h4, hpw, h16, hrg⟩ := tab_nat hk
  obtain rfl : n = m0 := by omega
  have HR := Lib.hid hr
  have HK := Lib.hid hk
  clear hk hpw hrg he hr
  go_enter Try.func79, Try.ntmps79
  go_wp2_with fail
  refine (spec_weights n w h4).mono ?_
  rintro e w1 ⟨v, rfl, hog, hb1⟩
  obtain ⟨ao, co, hvo, _, _, _⟩ := hog.slice
  subst hvo
  have HG := Lib.hid hog
  have HB1 := Lib.hid hb1
  have hs1 := hb1.size
  have hlen := wts_length n
  have hp7 := pow7 h4
  have hl24 : (wts n).length ≤ 2401 := by omega
  have HRW := Lib.hid (fun r (hr : r ∈ wts n) => (wts_row hr).1)
  have HW3 := Lib.hid (fun r (hr : r ∈ wts n) => w3_row hr)
  clear hog hb1 hlen hp7
  generalize wts n = rows at *
  have HOE := Lib.hid ((own_empty w1).mono (hi' := (w1.alloc (.cells #[] 3)).heap.size) hs1 (by simp))
  have HBE := Lib.hid (below_alloc w1 (.cells #[] 3))
  go_wp2_with fail
  go_loopw [7, 8, 9] (fun v f i wr => ∃ (k : Nat), k ≤ rows.length ∧ i = .int .i64 k ∧ f = .bool (bs n zs rows k).2 ∧ Hid (OwnI w.heap.size wr.heap.size wr v (bs n zs rows k).1) ∧ Hid (Below w1.heap.size w1 wr)) (fun _ _ i _ => rows.length - (intOf i).toNat)
  case atStart => exact ⟨0, Nat.zero_le _, rfl, rfl, HOE, HBE⟩
  case round =>
    obtain ⟨k, hk, rfl, rfl, HO, HBl⟩ := hrel
    clear HOE HBE
    have HBW := Lib.hid (HB1.out.trans (HBl.out.mono hs1))
    have hsl := HBl.out.size
    by_cases hlt : k < rows.length
    · obtain ⟨bl, off, p, q, hpe, hbl, hc, hoi⟩ := ownG_at (HG.out.below HBl.out) hlt
      subst hpe
      obtain ⟨pb, qb, hvb, hrb, _, _⟩ := HO.out.slice
      subst hvb
      have hmem : rows.getD k [] ∈ rows := by rw [List.getD_eq_getElem?_getD, List.getElem?_eq_getElem hlt]; exact List.getElem_mem hlt
      have HLr := Lib.hid (HRW.out _ hmem)
      have hr4 : (rows.getD k []).length ≤ 4 := by have := HLr.out; omega
      have HWr := Lib.hid (HW3.out _ hmem)
      have hbr := bs_row n zs rows k hk
      have HWb := Lib.hid (show W3 (bs n zs rows k).1 from by rcases hbr with e | e; · rw [e]; exact w3_nil
                                                              · exact HW3.out _ e)
      have hb4 : (bs n zs rows k).1.length ≤ 4 := by
        rcases hbr with e | e
        · rw [e]; simp
        · have := HRW.out _ e; omega
      obtain ⟨_, _, e3, hrr, _, _⟩ := hoi.slice
      cases e3
      have HRR := Lib.hid hrr
      have HRB := Lib.hid hrb
      have HOI := Lib.hid (hoi.mono (hi' := wr.heap.size) (Nat.le_refl _) hsl)
      have i1 : (0 : Int) ≤ (k : Int) := by omega
      have i2 : (k : Int) < (rows.length : Int) := by omega
      have HCS1 := Lib.hid (fun (m : Nat) => spec_size p (rows.getD k []) q (wr.drewN m) HRR.out hr4 HWr.out)
      have HCS2 := Lib.hid (fun (m : Nat) => spec_size pb (bs n zs rows k).1 qb (wr.drewN m) HRB.out hb4 HWb.out)
      have HCP := Lib.hid (fun (m : Nat) => spec_parts n a zs c p (rows.getD k []) q (wr.drewN m) (HR.out.below (ints.below_drewN HBW.out m)) HRR.out HK.out HLr.out HWr.out)
      have HKP := Lib.hid (fun h1 h2 => bs_keep (n := n) (i := k) (zs := zs) (rows := rows) h1 h2)
      have HNO := Lib.hid (fun h => bs_no (n := n) (i := k) (zs := zs) (rows := rows) h)
      have HTK := Lib.hid (fun h1 h2 => bs_take (n := n) (i := k) (zs := zs) (rows := rows) h1 h2)
      clear hmem hbr hrr hrb hoi HLr HWr HWb
      obtain ⟨B, hB⟩ : ∃ B, B = bs n zs rows k := ⟨_, rfl⟩
      rw [← hB] at HKP HNO HTK HCS2 HO HRB hb4 ⊢
      clear hB
      obtain ⟨bw, bf⟩ := B
      simp only [] at HKP HNO HTK HCS2 HO HRB hb4 ⊢
      generalize rows.getD k [] = r at *
      cases bf
      · go_wp2_with fail
        have HCPm := Lib.hid (HCP.out 0)
        have hcX : (wr.drewN 0).cell? ⟨bl, off + k, none⟩ = some (.slice p r.length q) := hc
        have HBX := Lib.hid (ints.below_drewN (Below.refl wr.heap.size wr) 0)
        clear HCP HCS1 HCS2 HKP
        change Hid (Calls _ _ _ wr _) at HCPm
        change Hid (Below wr.heap.size wr wr) at HBX
        refine HCPm.out.mono ?_
        rintro e w3 ⟨rfl, hb3⟩
        have HB3 := Lib.hid (HBX.out.trans (hb3.mono HBX.out.size))
        have hc3 := cell_below HB3.out hc hbl
        have hs3 := HB3.out.size
        have HOr := Lib.hid ((HOI.out.below HB3.out).mono (lo' := w.heap.size) (hi' := w3.heap.size) (Nat.le_refl _) hs3)
        have HOb := Lib.hid ((HO.out.below HB3.out).mono (lo' := w.heap.size) (hi' := w3.heap.size) (Nat.le_refl _) hs3)
        have HBn := Lib.hid (HBl.out.trans (HB3.out.mono hsl))
        clear hb3 HCPm hc hcX
        cases hpp : partsB n zs r
        · have HE := Lib.hid (HNO.out hpp)
          clear HNO HTK hpp
          go_wp2_with fail
          go_roundw
          case rel => exact ⟨k + 1, by omega, by go_num, by rw [HE.out], by rw [HE.out]; exact HOb, HBn⟩
          case measure => simp [intOf]; omega
        · have HE := Lib.hid (HTK.out (by simp) hpp)
          clear HNO HTK hpp
          go_wp2_with fail
          go_roundw
          case rel => exact ⟨k + 1, by omega, by go_num, by rw [HE.out], by rw [HE.out]; exact HOr, HBn⟩
          case measure => simp [intOf]; omega
      · have HS1 := HCS1
        go_wp2_with fail
        refine (HCS1.out 0).mono ?_
        rintro e w' ⟨rfl, m1, rfl⟩
        rw [World.drewN_drewN, Nat.zero_add]
        go_wp2_with fail
        refine (HCS2.out m1).mono ?_
        rintro e w' ⟨rfl, m2, rfl⟩
        rw [World.drewN_drewN]
        by_cases hle : size bw ≤ size r
        · have HE := Lib.hid (HKP.out (by first | rfl | trivial) hle)
          have HBn := Lib.hid (ints.below_drewN HBl.out (m1 + m2))
          have HOb := Lib.hid (show OwnI w.heap.size (wr.drewN (m1 + m2)).heap.size (wr.drewN (m1 + m2)) (.slice pb bw.length qb) bw from HO.out)
          clear HNO HTK HCP HCS1 HCS2 HKP
          generalize wr.drewN (m1 + m2) = wX at *
          generalize size bw = sb at *
          generalize size r = sr at *
          go_wp2_with fail
          go_roundw
          case rel => exact ⟨k + 1, by omega, by go_num, by rw [HE.out], by rw [HE.out]; exact HOb, HBn⟩
          case measure => simp [intOf]; omega
        · have hgt : ¬ (size bw ≤ size r) := hle
          have hneg : ¬ (True ∧ size bw ≤ size r) := fun h => hle h.2
          have HNEG := Lib.hid (show ¬ (true = true ∧ size bw ≤ size r) from fun h => hle h.2)
          have HTK2 := Lib.hid (fun h => HTK.out (by first | exact HNEG.out | exact hneg | exact hgt | (simp; omega)) h)
          clear HTK
          have HTK := HTK2
          clear HTK2
          clear hneg hle
          generalize size bw = sb at *
          generalize size r = sr at *
          have HCPm := Lib.hid (HCP.out (m1 + m2))
          have hcX : (wr.drewN (m1 + m2)).cell? ⟨bl, off + k, none⟩ = some (.slice p r.length q) := hc
          have HBX := Lib.hid (ints.below_drewN (Below.refl wr.heap.size wr) (m1 + m2))
          clear HCP HCS1 HCS2 HKP
          generalize wr.drewN (m1 + m2) = wX at *
          go_wp2_with fail
          refine HCPm.out.mono ?_
          rintro e w3 ⟨rfl, hb3⟩
          have HB3 := Lib.hid (HBX.out.trans (hb3.mono HBX.out.size))
          have hc3 := cell_below HB3.out hc hbl
          have hs3 := HB3.out.size
          have HOr := Lib.hid ((HOI.out.below HB3.out).mono (lo' := w.heap.size) (hi' := w3.heap.size) (Nat.le_refl _) hs3)
          have HOb := Lib.hid ((HO.out.below HB3.out).mono (lo' := w.heap.size) (hi' := w3.heap.size) (Nat.le_refl _) hs3)
          have HBn := Lib.hid (HBl.out.trans (HB3.out.mono hsl))
          clear hb3 HCPm hc hcX
          cases hpp : partsB n zs r
          · have HE := Lib.hid (HNO.out hpp)
            clear HNO HTK hpp
            go_wp2_with fail
            go_roundw
            case rel => exact ⟨k + 1, by omega, by go_num, by rw [HE.out], by rw [HE.out]; exact HOb, HBn⟩
            case measure => simp [intOf]; omega
          · have HE := Lib.hid (HTK.out hpp)
            clear HNO HTK hpp
            go_wp2_with fail
            go_roundw
            case rel => exact ⟨k + 1, by omega, by go_num, by rw [HE.out], by rw [HE.out]; exact HOr, HBn⟩
            case measure => simp [intOf]; omega
    · obtain rfl : k = rows.length := by omega
      have HF := Lib.hid (show RetIB (bs n zs rows rows.length).1 (bs n zs rows rows.length).2 w (.returned (.tuple #[u7, .bool (bs n zs rows rows.length).2])) wr from ⟨u7, rfl, HO.out, HBW.out⟩)
      go_wp2_with fail
      go_ret2
      exact HF.out
end Go.Proofs.Ytoephhhofkmgjab.least5

namespace Go.Proofs.Ytoephhhofkmgjab.sizei
open Go.RowKit own pp nums parts
set_option linter.unusedVariables false
set_option linter.unusedSimpArgs false

open mk (mk_length mk_succ mk_getD mk_congr fil fil_zero fil_all fil_succ fil_at)
def ab (ws : List Int) (k : Nat) : Int := max (ws.getD k 0) (-(ws.getD k 0))
set_option maxRecDepth 100000 in
set_option maxHeartbeats 4000000 in
theorem impl_signs (a : Option Addr) (ws : List Int) (c : Nat) (w : World) (hr : ints.Reads .i64 w a ws) (h4 : ws.length ≤ 4) (hW : W3 ws) :
    Calls Try.prog 118 #[.slice a ws.length c] w ((fun e w' => ∃ v, e = .returned v ∧ OwnI w.heap.size w'.heap.size w' v (mk.mk (ab ws) ws.length) ∧ Below w.heap.size w w')) := by
  obtain ⟨i0, hi, hz0, hz1, hz2⟩ := info_parts mk.infoInt
  have HR := Lib.hid hr
  have HW := Lib.hid hW
  clear hr hW
  go_enter Try.func118, Try.ntmps118
  have j0 : (0 : Int) ≤ (ws.length : Int) := by omega
  have j1 : (ws.length : Int) ≤ 4 := by omega
  go_wp2_with (refine wpList_make_full _ rfl _ _ 22 rfl w.heap.size 3 i0 (.int .i64 0) 1 Try.underlying22 hi hz0 hz1 .i64 .i64 _ _ ws.length rfl rfl rfl rfl (by rw [hz2]; omega) (by unfold maxLen; omega) (Nat.le_refl _) ?_; intro w1 hown1 hgrow1; refine Hid.out ?_)
  refine Lib.hid ?_
  have HB1 := Lib.hid (show Below w.heap.size w w1 from (Below.refl _ _).grown hgrow1 (Nat.le_refl _) (by simp))
  rw [show (Value.int .i64 0).cells = #[Value.int .i64 0] from rfl, Nat.mul_one, toList_madeCells_one, ← fil_zero (ab ws)] at hown1
  have HO1 := Lib.hid hown1
  clear hgrow1 hown1
  go_wp2_with fail
  go_loopw [11] (fun i wr => ∃ k : Nat, k ≤ ws.length ∧ i = .int .i64 k ∧ wr.ownsRow w.heap.size 3 1 (.slice (some ⟨w.heap.size, 0, none⟩) ws.length ws.length) ws.length (fil (ab ws) ws.length k) ∧ Below w.heap.size w wr) (fun i _ => ws.length - (intOf i).toNat)
  case atStart => exact ⟨0, Nat.zero_le _, rfl, HO1.out, HB1.out⟩
  case round =>
    obtain ⟨k, hk, rfl, hown, hbel⟩ := hrel
    clear HO1 HB1
    have HB := Lib.hid hbel
    clear hbel
    by_cases hlt : k < ws.length
    · obtain ⟨b, off, hab, hb, hc⟩ := (HR.out.below HB.out).at hlt
      subst hab
      have hz := HW.out k hlt
      have hcell : wr.cell? ⟨w.heap.size, k, none⟩ = some (.int .i64 0) := by rw [hown.cellAt k (by omega), fil_at _ _ k hlt]
      have hfro := hown.frozenAt k
      have hst := hown.stored k (.int .i64 (ab ws k))
      rw [fil_succ (ab ws) _ k hlt] at hst
      have HS := Lib.hid (show (wr.setCell ⟨w.heap.size, k, none⟩ (.int .i64 (max (ws.getD k 0) (-(ws.getD k 0))))).ownsRow w.heap.size 3 1 (.slice (some ⟨w.heap.size, 0, none⟩) ws.length ws.length) ws.length (fil (ab ws) ws.length (k + 1)) from hst.1)
      have i1 : (0 : Int) ≤ (k : Int) := by omega
      have i2 : (k : Int) < (ws.length : Int) := by omega
      clear hst hown
      generalize ws.getD k 0 = z at *
      go_wp2_with fail
      go_roundw
      case rel => exact ⟨k + 1, by omega, by go_num, HS.out, HB.out.setCell (Nat.le_refl _) _⟩
      case measure => simp [intOf]; omega
    · obtain rfl : k = ws.length := by omega
      rw [fil_all] at hown
      have HO := Lib.hid hown
      clear hown
      go_wp2_with fail
      go_ret
      exact ⟨_, rfl, OwnI.of (by rw [mk_length]; exact HO.out), HB.out⟩
set_option maxRecDepth 100000 in
set_option maxHeartbeats 4000000 in
theorem impl_size (a : Option Addr) (ws : List Int) (c : Nat) (w : World) (hr : ints.Reads .i64 w a ws) (h4 : ws.length ≤ 4) (hW : W3 ws) :
    Calls Try.prog 84 #[.slice a ws.length c] w ((fun e w' => e = .returned (.int .i64 (size ws)) ∧ Below w.heap.size w w')) := by
  have HW := Lib.hid hW
  have HC := Lib.hid (impl_signs a ws c w hr h4 hW)
  clear hr hW
  go_enter Try.func84, Try.ntmps84
  go_wp2_with fail
  refine HC.out.mono ?_
  rintro e w1 ⟨v, rfl, ho, hb⟩
  obtain ⟨p, q, rfl, hrd, _, _⟩ := ho.slice
  rw [mk_length]
  have HR := Lib.hid hrd
  have HB := Lib.hid hb
  have HG := Lib.hid (fun k (h : k < ws.length) => mk_getD (ab ws) ws.length k h)
  have HL := Lib.hid (mk_length (ab ws) ws.length)
  clear HC ho hrd hb
  generalize mk.mk (ab ws) ws.length = xs at *
  go_wp2_with fail
  go_loopw [3, 9] (fun s i wr => ∃ k : Nat, k ≤ ws.length ∧ i = .int .i64 k ∧ s = .int .i64 (szTo ws k) ∧ wr = w1) (fun _ i _ => ws.length - (intOf i).toNat)
  case atStart => exact ⟨0, Nat.zero_le _, rfl, rfl, rfl⟩
  case round =>
    obtain ⟨k, hk, rfl, rfl, rfl⟩ := hrel
    by_cases hlt : k < ws.length
    · obtain ⟨b, off, rfl, hb, hc⟩ := HR.out.at (k := k) (by rw [HL.out]; exact hlt)
      rw [HG.out k hlt] at hc
      have hz := HW.out k hlt
      have hs := sz_bd HW.out k hk
      have HS := Lib.hid (show szTo ws (k + 1) = szTo ws k + ab ws k from rfl)
      have hmx : 0 ≤ ab ws k ∧ ab ws k ≤ 3 := by unfold ab; omega
      have i1 : (0 : Int) ≤ (k : Int) := by omega
      have i2 : (k : Int) < (ws.length : Int) := by omega
      generalize szTo ws k = s at *
      generalize ab ws k = y at *
      go_wp2_with fail
      go_roundw
      case rel => exact ⟨k + 1, by omega, by go_num, by rw [HS.out], trivial⟩
      case measure => simp [intOf]; omega
    · obtain rfl : k = ws.length := by omega
      go_wp2_with fail
      go_ret
      exact ⟨rfl, HB.out⟩
end Go.Proofs.Ytoephhhofkmgjab.sizei

namespace Go.Proofs.Ytoephhhofkmgjab.thr
open Go.RowKit own pp nums range tab bitw pairw trade findp parts wts least5
set_option linter.unusedVariables false
set_option linter.unusedSimpArgs false

open thrc (enc val NoT Pl plane_of enc_ds)
/-- Where the weights part ones from other places. -/
theorem st_inv (n : Nat) (zs ws : List Int) (k : Nat) :
    (∀ a, a < k → zs.getD a 0 = 1 → 0 < (st n zs ws k).o ∧ (st n zs ws k).l ≤ pr ws n a) ∧ (0 < (st n zs ws k).o → ∃ a, a < k ∧ zs.getD a 0 = 1 ∧ (st n zs ws k).l = pr ws n a) ∧
    (∀ a, a < k → zs.getD a 0 ≠ 1 → 0 < (st n zs ws k).x ∧ pr ws n a ≤ (st n zs ws k).m) ∧ (0 < (st n zs ws k).x → ∃ a, a < k ∧ zs.getD a 0 ≠ 1 ∧ (st n zs ws k).m = pr ws n a) := by
  induction k with
  | zero => exact ⟨fun a h => by omega, fun h => by simp [st] at h, fun a h => by omega, fun h => by simp [st] at h⟩
  | succ k ih =>
    obtain ⟨i1, i2, i3, i4⟩ := ih
    by_cases hz : zs.getD k 0 = 1
    · rw [st_one hz]
      generalize st n zs ws k = s at *
      refine ⟨fun a ha h1 => ⟨by show 0 < s.o + 1; omega, ?_⟩, fun _ => ?_, fun a ha h1 => ?_, fun h => ?_⟩
      · show (if s.o = 0 ∨ pr ws n k < s.l then pr ws n k else s.l) ≤ pr ws n a
        by_cases e : a = k
        · subst e
          split <;> omega
        · have := i1 a (by omega) h1
          split <;> omega
      · show ∃ a, a < k + 1 ∧ zs.getD a 0 = 1 ∧ (if s.o = 0 ∨ pr ws n k < s.l then pr ws n k else s.l) = pr ws n a
        by_cases e : s.o = 0 ∨ pr ws n k < s.l
        · exact ⟨k, by omega, hz, by rw [if_pos e]⟩
        · obtain ⟨a, ha, h1, h2⟩ := i2 (by omega)
          exact ⟨a, by omega, h1, by rw [if_neg e]; exact h2⟩
      · have e : a ≠ k := fun e => h1 (by rw [e]; exact hz)
        exact i3 a (by omega) h1
      · obtain ⟨a, ha, h1, h2⟩ := i4 h
        exact ⟨a, by omega, h1, h2⟩
    · rw [st_other hz]
      generalize st n zs ws k = s at *
      refine ⟨fun a ha h1 => ?_, fun h => ?_, fun a ha h1 => ⟨by show 0 < s.x + 1; omega, ?_⟩, fun _ => ?_⟩
      · have e : a ≠ k := fun e => hz (by rw [← e]; exact h1)
        exact i1 a (by omega) h1
      · obtain ⟨a, ha, h1, h2⟩ := i2 h
        exact ⟨a, by omega, h1, h2⟩
      · show pr ws n a ≤ (if s.x = 0 ∨ s.m < pr ws n k then pr ws n k else s.m)
        by_cases e : a = k
        · subst e
          split <;> omega
        · have := i3 a (by omega) h1
          split <;> omega
      · show ∃ a, a < k + 1 ∧ zs.getD a 0 ≠ 1 ∧ (if s.x = 0 ∨ s.m < pr ws n k then pr ws n k else s.m) = pr ws n a
        by_cases e : s.x = 0 ∨ s.m < pr ws n k
        · exact ⟨k, by omega, hz, by rw [if_pos e]⟩
        · obtain ⟨a, ha, h1, h2⟩ := i4 (by omega)
          exact ⟨a, by omega, h1, by rw [if_neg e]; exact h2⟩
theorem parts_iff (n : Nat) (zs ws : List Int) : partsB n zs ws = true ↔ ∀ a, a < zs.length → zs.getD a 0 = 1 → ∀ c, c < zs.length → zs.getD c 0 ≠ 1 → pr ws n c < pr ws n a := by
  obtain ⟨i1, i2, i3, i4⟩ := st_inv n zs ws zs.length
  unfold partsB
  generalize st n zs ws zs.length = s at *
  simp only [Bool.or_eq_true, decide_eq_true_eq]
  constructor
  · intro h a ha h1 c hc h2
    have k1 := i1 a ha h1
    have k2 := i3 c hc h2
    rcases h with (h | h) | h <;> omega
  · intro h
    by_cases e1 : s.o = 0
    · exact .inl (.inl e1)
    · by_cases e2 : s.x = 0
      · exact .inl (.inr e2)
      · obtain ⟨a, ha, h1, h2⟩ := i2 (by omega)
        obtain ⟨c, hc, h3, h5⟩ := i4 (by omega)
        have := h a ha h1 c hc h3
        right
        omega
theorem bits_getD (k n i : Nat) (h : i < n) : (bitsTo k n).getD i 0 = ((k / 2 ^ i % 2 : Nat) : Int) := by
  simp [bitsTo, List.getD_eq_getElem?_getD, h]
theorem pr_sum {n a b c d : Nat} {ws : List Int} (hl : ws.length = n) (h : eqBits n a b c d = true) : pr ws n a + pr ws n b = pr ws n c + pr ws n d := by
  unfold pr dot
  rw [hl]
  have key : ∀ j, j ≤ n → dotTo ws (bitsTo a n) j + dotTo ws (bitsTo b n) j = dotTo ws (bitsTo c n) j + dotTo ws (bitsTo d n) j := by
    intro j
    induction j with
    | zero => intro _; simp [dotTo_zero]
    | succ j ih =>
      intro hj
      have h1 := ih (by omega)
      have h2 := eq_at h j (by omega)
      unfold ds at h2
      rw [dotTo_succ, dotTo_succ, dotTo_succ, dotTo_succ, bits_getD a n j (by omega), bits_getD b n j (by omega), bits_getD c n j (by omega), bits_getD d n j (by omega)]
      have h3 : ws.getD j 0 * ((a / 2 ^ j % 2 : Nat) : Int) + ws.getD j 0 * ((b / 2 ^ j % 2 : Nat) : Int) = ws.getD j 0 * ((c / 2 ^ j % 2 : Nat) : Int) + ws.getD j 0 * ((d / 2 ^ j % 2 : Nat) : Int) := by
        rw [← Int.mul_add, ← Int.mul_add, h2]
      omega
  exact key n (Nat.le_refl n)
/-- The weights of a number. -/
def wOf (c n : Nat) : List Int := (List.range n).map fun i => ((c / 7 ^ i % 7 : Nat) : Int) - 3
theorem wOf_length (c n : Nat) : (wOf c n).length = n := by simp [wOf]
theorem wOf_getD (c n i : Nat) (h : i < n) : (wOf c n).getD i 0 = ((c / 7 ^ i % 7 : Nat) : Int) - 3 := by simp [wOf, List.getD_eq_getElem?_getD, h]
theorem wOf_pr (c n k : Nat) : pr (wOf c n) n k = ((val c k n : Nat) : Int) - 3 * n := by
  unfold pr dot
  rw [wOf_length]
  have key : ∀ j, j ≤ n → dotTo (wOf c n) (bitsTo k n) j = ((val c k j : Nat) : Int) - 3 * j := by
    intro j
    induction j with
    | zero => intro _; simp [dotTo_zero, val]
    | succ j ih =>
      intro hj
      rw [dotTo_succ, ih (by omega), wOf_getD c n j (by omega), bits_getD k n j (by omega)]
      have h2 : k / 2 ^ j % 2 = 0 ∨ k / 2 ^ j % 2 = 1 := by omega
      rcases h2 with e | e
      · rw [val, e, if_neg (by decide)]; push_cast; omega
      · rw [val, e, if_pos (by decide)]; push_cast; omega
  exact key n (Nat.le_refl n)
theorem wOf_succ (c n : Nat) : wOf c (n + 1) = wOf c n ++ [((c / 7 ^ n % 7 : Nat) : Int) - 3] := by simp [wOf, List.range_succ]
theorem wOf_mem (c n : Nat) : wOf c n ∈ wts n := by
  induction n with
  | zero => simp [wOf, wts]
  | succ n ih =>
    rw [wOf_succ]
    show _ ∈ stepW (wts n)
    unfold stepW
    rw [List.mem_flatMap]
    refine ⟨wOf c n, ih, ?_⟩
    unfold ext
    rw [List.mem_map]
    exact ⟨c / 7 ^ n % 7, List.mem_range.2 (Nat.mod_lt _ (by decide)), rfl⟩
theorem first_nil {p : Nat → Bool} {N : Nat} (h : first p N = none) : ∀ j, j < N → p j = false := by
  induction N with
  | zero => intro j hj; omega
  | succ N ih =>
    rw [first] at h
    cases hf : first p N with
    | some x => rw [hf] at h; cases h
    | none =>
      rw [hf] at h
      intro j hj
      by_cases e : j = N
      · subst e
        cases hp : p j
        · rfl
        · simp [hp] at h
      · exact ih hf j (by omega)
theorem findN_nil {N n : Nat} {zs : List Int} (h : (findN N n zs).length = 0) : ∀ j, j < N → okC n zs j = false := by
  unfold findN at h
  cases hf : first (okC n zs) N with
  | some x => rw [hf] at h; simp [dec] at h
  | none => exact first_nil hf
theorem find_nil {n : Nat} {zs : List Int} (h : (findT n zs).length = 0) : ∀ j, j < 65536 → okC n zs j = false := findN_nil h
/-- Threshold tables are those without trades. -/
theorem thr_iff {n : Nat} {zs : List Int} (hk : tabB n zs = true) : (bs n zs (wts n) (wts n).length).2 = !(decide (0 < (findT n zs).length)) := by
  obtain ⟨m0, he, h4, hpw, h16, hrg⟩ := tab_nat hk
  obtain rfl : n = m0 := by omega
  rw [Bool.eq_iff_iff, bs_found]
  simp only [Bool.not_eq_true', decide_eq_false_iff_not]
  constructor
  · rintro ⟨j, hj, hp⟩ hlen
    have hmem : (wts n).getD j [] ∈ wts n := by rw [List.getD_eq_getElem?_getD, List.getElem?_eq_getElem hj]; exact List.getElem_mem hj
    have hl := (wts_row hmem).1
    have hsep := (parts_iff n zs _).1 hp
    generalize (wts n).getD j [] = ws at *
    have hno : findT n zs = [] := by
      refine find_none fun i hi => ?_
      cases hc : okC n zs i
      · rfl
      · exfalso
        have h5 := okC_in hc
        have h6 := tr_in h5.2
        have v1 := tab_at hk _ h5.1.1.1
        have v2 := tab_at hk _ h5.1.1.2
        have v3 := tab_at hk _ h5.1.2.1
        have v4 := tab_at hk _ h5.1.2.2
        have h7 := hsep _ h5.1.1.1 (by omega) _ h5.1.2.1 (by omega)
        have h8 := hsep _ h5.1.1.2 (by omega) _ h5.1.2.2 (by omega)
        have h9 := pr_sum hl h6.2.2
        omega
    rw [hno] at hlen
    simp at hlen
  · intro hlen
    have hno := find_nil (n := n) (zs := zs) (by omega)
    have hT : NoT (fun k => zs.getD k 0 == 1) (List.range (2 ^ n)) := by
      intro a ha b hb c hc d hd h1 h2 h3 h5 he
      simp only [beq_iff_eq, beq_eq_false_iff_ne] at h1 h2 h3 h5
      rw [List.mem_range] at ha hb hc hd
      have v3 := tab_at hk c (by omega)
      have v4 := tab_at hk d (by omega)
      have hmk : ∀ a b c d : Nat, a < 2 ^ n → b < 2 ^ n → c < 2 ^ n → d < 2 ^ n → zs.getD a 0 = 1 → zs.getD b 0 = 1 → zs.getD c 0 = 0 → zs.getD d 0 = 0 → enc a + enc b = enc c + enc d → a ≤ b → c ≤ d → False := by
        intro a b c d ha hb hc hd k1 k2 k3 k4 ke hab hcd
        have ht : trN n zs a b c d = true := by
          unfold trN
          rw [decide_eq_true hab, decide_eq_true hcd, k1, k2, k3, k4]
          show eqBits n a b c d = true
          refine eq_all fun i hi => ?_
          have e1 := enc_ds ⟨a, by omega⟩ ⟨b, by omega⟩ ⟨i, by omega⟩
          have e2 := enc_ds ⟨c, by omega⟩ ⟨d, by omega⟩ ⟨i, by omega⟩
          simp only at e1 e2
          rw [ke, e2] at e1
          unfold ds
          omega
        have := hno (code a b c d) (by unfold code; omega)
        rw [okC_at h16 (by omega) (by omega) (by omega) (by omega), ht] at this
        cases this
      rcases Nat.le_total a b with hab | hab <;> rcases Nat.le_total c d with hcd | hcd
      · exact hmk a b c d ha hb hc hd h1 h2 (by omega) (by omega) he hab hcd
      · exact hmk a b d c ha hb hd hc h1 h2 (by omega) (by omega) (by omega) hab hcd
      · exact hmk b a c d hb ha hc hd h2 h1 (by omega) (by omega) (by omega) hab hcd
      · exact hmk b a d c hb ha hd hc h2 h1 (by omega) (by omega) (by omega) hab hcd
    obtain ⟨c, b, hpl⟩ := plane_of h4 _ hT
    obtain ⟨j, hj, hje⟩ := List.getElem_of_mem (wOf_mem c n)
    refine ⟨j, hj, ?_⟩
    have e : (wts n).getD j [] = wOf c n := by rw [List.getD_eq_getElem?_getD, List.getElem?_eq_getElem hj]; exact hje
    rw [e, parts_iff]
    intro a ha h1 x hx h2
    rw [wOf_pr, wOf_pr]
    have k1 := (hpl a (List.mem_range.2 (by omega))).1 (by simp only [beq_iff_eq]; exact h1)
    have k2 := (hpl x (List.mem_range.2 (by omega))).2 (by simp only [beq_eq_false_iff_ne]; exact h2)
    omega
end Go.Proofs.Ytoephhhofkmgjab.thr
