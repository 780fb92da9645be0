/- Several texts in one. -/
import Derived.BigQuiet
import Derived.Test.YtldimbipjjjghaaLpH12
import Derived.Test.YtldimbipjjjghaaLpH14
import Derived.Test.YtldimbipjjjghaaLpH8
import Derived.Test.YtldimbipjjjghaaLpH11
import Derived.Test.YtldimbipjjjghaaLpH18
namespace Go.Proofs.Ytldimbipjjjghaa.parts
open Go.RowKit own pp nums range tab bitw most dots
set_option linter.unusedVariables false
set_option linter.unusedSimpArgs false

/-- Small weights. -/
def W3 (ws : List Int) : Prop := ∀ i, i < ws.length → -3 ≤ ws.getD i 0 ∧ ws.getD i 0 ≤ 3
def szTo (ws : List Int) : Nat → Int
  | 0 => 0
  | k + 1 => szTo ws k + max (ws.getD k 0) (-(ws.getD k 0))
def size (ws : List Int) : Int := szTo ws ws.length
theorem sz_bd {ws : List Int} (h : W3 ws) (k : Nat) (hk : k ≤ ws.length) : 0 ≤ szTo ws k ∧ szTo ws k ≤ 3 * k := by
  induction k with
  | zero => simp [szTo]
  | succ k ih =>
    have h1 := ih (by omega)
    have h2 := h k (by omega)
    unfold szTo
    omega
theorem w3_small {ws : List Int} (h : W3 ws) (k n : Nat) : Small ws (bitsTo k n) := by
  intro i hi
  have h1 := h i hi
  have h2 : (bitsTo k n).getD i 0 = 0 ∨ (bitsTo k n).getD i 0 = 1 := by
    unfold bitsTo
    rw [List.getD_eq_getElem?_getD, List.getElem?_map]
    cases hx : (List.range n)[i]? with
    | none => left; rfl
    | some j =>
      show ((k / 2 ^ j % 2 : Nat) : Int) = 0 ∨ ((k / 2 ^ j % 2 : Nat) : Int) = 1
      omega
  rcases h2 with e | e <;> rw [e] <;> omega
theorem w3_dot {ws : List Int} (h : W3 ws) (k n j : Nat) (hj : j ≤ ws.length) : -(3 * (j : Int)) ≤ dotTo ws (bitsTo k n) j ∧ dotTo ws (bitsTo k n) j ≤ 3 * j := by
  induction j with
  | zero => simp [dotTo_zero]
  | succ j ih =>
    have h0 := ih (by omega)
    have h1 := h j (by omega)
    have h2 : (bitsTo k n).getD j 0 = 0 ∨ (bitsTo k n).getD j 0 = 1 := by
      unfold bitsTo
      rw [List.getD_eq_getElem?_getD, List.getElem?_map]
      cases hx : (List.range n)[j]? with
      | none => left; rfl
      | some j' =>
        show ((k / 2 ^ j' % 2 : Nat) : Int) = 0 ∨ ((k / 2 ^ j' % 2 : Nat) : Int) = 1
        omega
    rw [dotTo_succ]
    rcases h2 with e | e <;> rw [e] <;> omega
/-- The product at a place. -/
def pr (ws : List Int) (n k : Nat) : Int := dot ws (bitsTo k n)
theorem pr_bd {ws : List Int} (h : W3 ws) (h4 : ws.length ≤ 4) (n k : Nat) : -12 ≤ pr ws n k ∧ pr ws n k ≤ 12 := by
  have := w3_dot h k n ws.length (Nat.le_refl _)
  unfold pr dot
  omega
/-- The numbers of ones and of other places, the least product of a one, the greatest of another place, among the first k. -/
structure St where
  o : Nat
  x : Nat
  l : Int
  m : Int
def st (n : Nat) (zs ws : List Int) : Nat → St
  | 0 => ⟨0, 0, 0, 0⟩
  | k + 1 =>
    let s := st n zs ws k
    if zs.getD k 0 = 1 then ⟨s.o + 1, s.x, if s.o = 0 ∨ pr ws n k < s.l then pr ws n k else s.l, s.m⟩
    else ⟨s.o, s.x + 1, s.l, if s.x = 0 ∨ s.m < pr ws n k then pr ws n k else s.m⟩
theorem st_one {n k : Nat} {zs ws : List Int} (h : zs.getD k 0 = 1) : st n zs ws (k + 1) = ⟨(st n zs ws k).o + 1, (st n zs ws k).x, if (st n zs ws k).o = 0 ∨ pr ws n k < (st n zs ws k).l then pr ws n k else (st n zs ws k).l, (st n zs ws k).m⟩ := by
  rw [st]; simp only [h, if_true]
theorem st_other {n k : Nat} {zs ws : List Int} (h : zs.getD k 0 ≠ 1) : st n zs ws (k + 1) = ⟨(st n zs ws k).o, (st n zs ws k).x + 1, (st n zs ws k).l, if (st n zs ws k).x = 0 ∨ (st n zs ws k).m < pr ws n k then pr ws n k else (st n zs ws k).m⟩ := by
  rw [st]; simp only [h, if_false]
theorem st_le (n k : Nat) (zs ws : List Int) : (st n zs ws k).o ≤ k ∧ (st n zs ws k).x ≤ k := by
  induction k with
  | zero => exact ⟨Nat.le_refl _, Nat.le_refl _⟩
  | succ k ih =>
    by_cases h : zs.getD k 0 = 1
    · rw [st_one h]; exact ⟨by show _ + 1 ≤ _; omega, by show _ ≤ _; have := ih.2; simp only; omega⟩
    · rw [st_other h]; exact ⟨by have := ih.1; simp only; omega, by show _ + 1 ≤ _; omega⟩
def partsB (n : Nat) (zs ws : List Int) : Bool := (decide ((st n zs ws zs.length).o = 0) || decide ((st n zs ws zs.length).x = 0)) || decide ((st n zs ws zs.length).m < (st n zs ws zs.length).l)
set_option maxRecDepth 100000 in
set_option maxHeartbeats 4000000 in
theorem spec_size (a : Option Addr) (ws : List Int) (c : Nat) (w : World) (hr : ints.Reads .i64 w a ws) (h4 : ws.length ≤ 4) (hW : W3 ws) :
    Calls Try.prog 116 #[.slice a ws.length c] w (fun e w' => e = .returned (.int .i64 (size ws)) ∧ ∃ m, w' = w.drewN m) := by
  have HW := Lib.hid hW
  clear hW
  go_enter Try.func116, Try.ntmps116
  go_wp2_with fail
  go_loopw [3, 4] (fun s i wr => ∃ k : Nat, k ≤ ws.length ∧ i = .int .i64 k ∧ s = .int .i64 (szTo ws k) ∧ ∃ m, wr = w.drewN m) (fun _ i _ => ws.length - (intOf i).toNat)
  case atStart => exact ⟨0, Nat.zero_le _, rfl, rfl, 0, rfl⟩
  case round =>
    obtain ⟨k, hk, rfl, rfl, m, rfl⟩ := hrel
    by_cases hlt : k < ws.length
    · obtain ⟨b, off, rfl, hb, hc⟩ := hr.at hlt
      replace hc : (w.drewN m).cell? ⟨b, off + k, none⟩ = some (.int .i64 (ws.getD k 0)) := hc
      have hz := HW.out k hlt
      have hs := sz_bd HW.out k hk
      have HS := Lib.hid (show szTo ws (k + 1) = szTo ws k + max (ws.getD k 0) (-(ws.getD k 0)) from rfl)
      have i1 : (0 : Int) ≤ (k : Int) := by omega
      have i2 : (k : Int) < (ws.length : Int) := by omega
      have HM := Lib.hid (show ∀ n, ∃ q, (w.drewN m).drewN n = w.drewN q from fun n => ⟨_, World.drewN_drewN _ _ _⟩)
      generalize ws.getD k 0 = z at *
      generalize szTo ws k = s at *
      generalize w.drewN m = wm at *
      have HC := Lib.hid (fun (q : Nat) => (most_any z (-z) (wm.drewN q)).mono (R' := fun e w' => e = .returned (.int .i64 (max z (-z))) ∧ ∃ m, w' = wm.drewN m) (fun _ _ h => ⟨h.1, q, h.2⟩))
      have hmx : 0 ≤ max z (-z) ∧ max z (-z) ≤ 3 := by omega
      generalize max z (-z) = y at *
      go_wp2_with fail
      go_quiet ((go_at_call 98; exact HC.out _))
      go_wp2_with fail
      go_roundw
      case rel => exact ⟨k + 1, by omega, by go_num, by rw [HS.out], HM.out _⟩
      case measure => simp [intOf]; omega
    · obtain rfl : k = ws.length := by omega
      go_wp2_with fail
      go_ret
      exact ⟨rfl, m, rfl⟩
set_option maxRecDepth 100000 in
set_option maxHeartbeats 4000000 in
theorem spec_parts (n : Nat) (a : Option Addr) (zs : List Int) (c : Nat) (p : Option Addr) (ws : List Int) (q : Nat) (w : World) (hr : ints.Reads .i64 w a zs) (hq : ints.Reads .i64 w p ws) (hk : tab.tabB n zs = true) (hl : ws.length = n) (hW : W3 ws) :
    Calls Try.prog 157 #[.int .i64 n, .slice a zs.length c, .slice p ws.length q] w (fun e w' => e = .returned (.tuple #[.int .i64 (st n zs ws zs.length).l, .int .i64 (st n zs ws zs.length).m, .bool (partsB n zs ws)]) ∧ Below w.heap.size w w') := by
  obtain ⟨m0, he, h4, hpw, h16, hrg⟩ := tab_nat hk
  obtain rfl : n = m0 := by omega
  have HW := Lib.hid hW
  have HR := Lib.hid hr
  have HQ := Lib.hid hq
  have HA := Lib.hid (tab_at hk)
  have HLn := Lib.hid hl
  have hl4 : ws.length ≤ 4 := by omega
  have HPB := Lib.hid (show partsB n zs ws = ((decide ((st n zs ws zs.length).o = 0) || decide ((st n zs ws zs.length).x = 0)) || decide ((st n zs ws zs.length).m < (st n zs ws zs.length).l)) from rfl)
  clear hk hpw hrg he hW hr hq hl
  go_enter Try.func157, Try.ntmps157
  go_wp2_with fail
  go_loopw [9, 10, 11, 12, 13] (fun o x l m i wr => ∃ k : Nat, k ≤ zs.length ∧ i = .int .i64 k ∧ o = .int .i64 ((st n zs ws k).o : Nat) ∧ x = .int .i64 ((st n zs ws k).x : Nat) ∧ l = .int .i64 (st n zs ws k).l ∧ m = .int .i64 (st n zs ws k).m ∧ Below w.heap.size w wr) (fun _ _ _ _ i _ => zs.length - (intOf i).toNat)
  case atStart => exact ⟨0, Nat.zero_le _, rfl, rfl, rfl, rfl, rfl, Below.refl _ _⟩
  case round =>
    obtain ⟨k, hk, rfl, rfl, rfl, rfl, rfl, hbel⟩ := hrel
    have HBl := Lib.hid hbel
    have hsz := hbel.size
    clear hbel
    by_cases hlt : k < zs.length
    · have hst := st_le n k zs ws
      have hpb := pr_bd HW.out hl4 n k
      have HS1 := Lib.hid (fun h => st_one (n := n) (k := k) (zs := zs) (ws := ws) h)
      have HS2 := Lib.hid (fun h => st_other (n := n) (k := k) (zs := zs) (ws := ws) h)
      have HCB := Lib.hid (spec_bits n k wr h4 (by omega))
      have hz := HA.out k hlt
      have HPR := Lib.hid (show pr ws n k = dot ws (bitsTo k n) from rfl)
      have i1 : (0 : Int) ≤ (k : Int) := by omega
      have i2 : (k : Int) < (zs.length : Int) := by omega
      go_wp2_with fail
      refine HCB.out.mono ?_
      rintro e w1 ⟨v, rfl, hov, hb1⟩
      obtain ⟨pa, pc, hv, hrp, _, _⟩ := hov.slice
      subst hv
      have HC1 := Lib.hid (spec_dot p ws q pa (bitsTo k n) pc w1 ((HQ.out.below HBl.out).below hb1) hrp (by omega) (by rw [bitsTo_length]; have := HLn.out; omega) (by rw [bitsTo_length]; omega) (w3_small HW.out k n))
      have HB1 := Lib.hid (HBl.out.trans (hb1.mono hsz))
      clear hov hb1 hrp HCB
      rw [← HPR.out] at HC1
      clear HPR
      go_wp2_with fail
      refine HC1.out.mono ?_
      rintro e w2' ⟨rfl, m2, rfl⟩
      have HB2 := Lib.hid (ints.below_drewN HB1.out m2)
      clear HC1 HB1
      generalize w1.drewN m2 = w2 at *
      obtain ⟨bz, oz, hae, hbz, hc⟩ := (HR.out.below HB2.out).at hlt
      subst hae
      generalize pr ws n k = y at *
      obtain ⟨s, hs⟩ : ∃ s, s = st n zs ws k := ⟨_, rfl⟩
      rw [← hs] at hst HS1 HS2 ⊢
      clear hs
      obtain ⟨so, sx, sl, sm⟩ := s
      simp only [] at hst HS1 HS2 ⊢
      rcases hz with hz | hz
      · have HST := Lib.hid (HS2.out (by rw [hz]; decide))
        rw [hz] at hc
        clear hz HS1 HS2
        by_cases hx0 : sx = 0
        · subst hx0
          rw [if_pos (.inl rfl)] at HST
          go_wp2_with fail
          go_roundw
          case rel => exact ⟨k + 1, by omega, by go_num, by rw [HST.out], by rw [HST.out] <;> go_num, by rw [HST.out], by rw [HST.out], HB2.out⟩
          case measure => simp [intOf]; omega
        · have g0 : ((sx : Int) == 0) = false := by rw [beq_eq_false_iff_ne]; omega
          by_cases hlt3 : sm < y
          · rw [if_pos (.inr hlt3)] at HST
            go_wp2_with fail
            go_roundw
            case rel => exact ⟨k + 1, by omega, by go_num, by rw [HST.out], by rw [HST.out] <;> go_num, by rw [HST.out], by rw [HST.out], HB2.out⟩
            case measure => simp [intOf]; omega
          · rw [if_neg (by omega)] at HST
            go_wp2_with fail
            go_roundw
            case rel => exact ⟨k + 1, by omega, by go_num, by rw [HST.out], by rw [HST.out] <;> go_num, by rw [HST.out], by rw [HST.out], HB2.out⟩
            case measure => simp [intOf]; omega
      · have HST := Lib.hid (HS1.out hz)
        rw [hz] at hc
        clear hz HS1 HS2
        by_cases hx0 : so = 0
        · subst hx0
          rw [if_pos (.inl rfl)] at HST
          go_wp2_with fail
          go_roundw
          case rel => exact ⟨k + 1, by omega, by go_num, by rw [HST.out] <;> go_num, by rw [HST.out], by rw [HST.out], by rw [HST.out], HB2.out⟩
          case measure => simp [intOf]; omega
        · have g0 : ((so : Int) == 0) = false := by rw [beq_eq_false_iff_ne]; omega
          by_cases hlt3 : y < sl
          · rw [if_pos (.inr hlt3)] at HST
            go_wp2_with fail
            go_roundw
            case rel => exact ⟨k + 1, by omega, by go_num, by rw [HST.out] <;> go_num, by rw [HST.out], by rw [HST.out], by rw [HST.out], HB2.out⟩
            case measure => simp [intOf]; omega
          · rw [if_neg (by omega)] at HST
            go_wp2_with fail
            go_roundw
            case rel => exact ⟨k + 1, by omega, by go_num, by rw [HST.out] <;> go_num, by rw [HST.out], by rw [HST.out], by rw [HST.out], HB2.out⟩
            case measure => simp [intOf]; omega
    · obtain rfl : k = zs.length := by omega
      obtain ⟨s, hs⟩ : ∃ s, s = st n zs ws zs.length := ⟨_, rfl⟩
      rw [← hs] at HPB ⊢
      obtain ⟨so, sx, sl, sm⟩ := s
      have HFIN := Lib.hid (show ∀ (b : Bool), b = partsB n zs ws → Ending.returned (.tuple #[.int .i64 sl, .int .i64 sm, .bool b]) = Ending.returned (.tuple #[.int .i64 (st n zs ws zs.length).l, .int .i64 (st n zs ws zs.length).m, .bool (partsB n zs ws)]) from fun b h => by rw [← hs, h])
      clear hs
      simp only [] at HPB ⊢
      by_cases h1 : so = 0
      · subst h1
        have HOK := Lib.hid (show true = partsB n zs ws by rw [HPB.out]; rfl)
        go_wp2_with fail
        go_ret3
        exact ⟨HFIN.out _ HOK.out, HBl.out⟩
      · have g1 : ((so : Int) == 0) = false := by rw [beq_eq_false_iff_ne]; omega
        by_cases h2 : sx = 0
        · subst h2
          have HOK := Lib.hid (show true = partsB n zs ws by rw [HPB.out]; simp)
          go_wp2_with fail
          go_ret3
          exact ⟨HFIN.out _ HOK.out, HBl.out⟩
        · have g2 : ((sx : Int) == 0) = false := by rw [beq_eq_false_iff_ne]; omega
          have HPC := Lib.hid (show decide (sm < sl) = partsB n zs ws by rw [HPB.out, decide_eq_false h1, decide_eq_false h2]; rfl)
          clear HPB h1 h2
          go_wp2_with fail
          go_ret3
          exact ⟨HFIN.out _ HPC.out, HBl.out⟩
end Go.Proofs.Ytldimbipjjjghaa.parts

namespace Go.Proofs.Ytldimbipjjjghaa.least5
open Go.RowKit own pp nums range tab bitw parts wts
set_option linter.unusedVariables false
set_option linter.unusedSimpArgs false

/-- The best of the first i weights, and whether there is one. -/
def bs (n : Nat) (zs : List Int) (rows : List (List Int)) : Nat → List Int × Bool
  | 0 => ([], false)
  | i + 1 => if (bs n zs rows i).2 = true ∧ size (bs n zs rows i).1 ≤ size (rows.getD i []) then bs n zs rows i else if partsB n zs (rows.getD i []) = true then (rows.getD i [], true) else bs n zs rows i
theorem bs_keep {n i : Nat} {zs : List Int} {rows : List (List Int)} (h1 : (bs n zs rows i).2 = true) (h2 : size (bs n zs rows i).1 ≤ size (rows.getD i [])) : bs n zs rows (i + 1) = bs n zs rows i := by rw [bs, if_pos ⟨h1, h2⟩]
theorem bs_no {n i : Nat} {zs : List Int} {rows : List (List Int)} (h : partsB n zs (rows.getD i []) = false) : bs n zs rows (i + 1) = bs n zs rows i := by
  rw [bs]
  split
  · rfl
  · rw [if_neg (by rw [h]; simp)]
theorem bs_take {n i : Nat} {zs : List Int} {rows : List (List Int)} (h1 : ¬ ((bs n zs rows i).2 = true ∧ size (bs n zs rows i).1 ≤ size (rows.getD i []))) (h : partsB n zs (rows.getD i []) = true) : bs n zs rows (i + 1) = (rows.getD i [], true) := by rw [bs, if_neg h1, if_pos h]
theorem bs_found (n : Nat) (zs : List Int) (rows : List (List Int)) (i : Nat) : (bs n zs rows i).2 = true ↔ ∃ j, j < i ∧ partsB n zs (rows.getD j []) = true := by
  induction i with
  | zero => simp [bs]
  | succ i ih =>
    cases hp : partsB n zs (rows.getD i [])
    · rw [bs_no hp, ih]
      constructor
      · rintro ⟨j, hj, h⟩; exact ⟨j, by omega, h⟩
      · rintro ⟨j, hj, h⟩
        by_cases e : j = i
        · subst e; rw [hp] at h; cases h
        · exact ⟨j, by omega, h⟩
    · by_cases hk : (bs n zs rows i).2 = true ∧ size (bs n zs rows i).1 ≤ size (rows.getD i [])
      · rw [bs_keep hk.1 hk.2]
        exact ⟨fun _ => ⟨i, by omega, hp⟩, fun _ => hk.1⟩
      · rw [bs_take hk hp]
        exact ⟨fun _ => ⟨i, by omega, hp⟩, fun _ => rfl⟩
theorem bs_row (n : Nat) (zs : List Int) (rows : List (List Int)) (i : Nat) (hi : i ≤ rows.length) : (bs n zs rows i).1 = [] ∨ (bs n zs rows i).1 ∈ rows := by
  induction i with
  | zero => left; rfl
  | succ i ih =>
    have h1 := ih (by omega)
    rw [bs]
    split
    · exact h1
    · split
      · right
        show rows.getD i [] ∈ rows
        rw [List.getD_eq_getElem?_getD, List.getElem?_eq_getElem (by omega)]
        exact List.getElem_mem (by omega)
      · exact h1
theorem w3_row {n : Nat} {r : List Int} (h : r ∈ wts n) : W3 r := by
  intro i hi
  refine (wts_row h).2 _ ?_
  rw [List.getD_eq_getElem?_getD, List.getElem?_eq_getElem hi]
  exact List.getElem_mem hi
theorem w3_nil : W3 [] := fun i hi => by simp at hi
/-- A row of an own list of lists, as it is loaded. -/
theorem ownG_at {lo hi : Nat} {w : World} {a : Option Addr} {m c : Nat} {rows : List (List Int)} (h : OwnG lo hi w (.slice a m c) rows) {i : Nat} (hi' : i < rows.length) :
    ∃ b off p q, a = some ⟨b, off, none⟩ ∧ b < w.heap.size ∧ w.cell? ⟨b, off + i, none⟩ = some (.slice p (rows.getD i []).length q) ∧ OwnI lo hi w (.slice p (rows.getD i []).length q) (rows.getD i []) := by
  obtain ⟨cs, h1, h2, hl, ho, hd⟩ := h
  rcases h1.2 with ⟨hv, h0⟩ | ⟨g, cap, cur, hv, hb, hh, hn, hm, hs, ht⟩
  · omega
  · cases hv
    obtain ⟨p, q, hv, hr, hc, _⟩ := (ho i hi').slice
    have hx := h1.cells (g := g) rfl i (cs.getD i undef) (by rw [List.getD_eq_getElem?_getD, List.getElem?_eq_getElem (by omega)]; simp)
    rw [Go.WideShapes.add_plain] at hx
    have hoi := ho i hi'
    rw [hv] at hx hoi
    exact ⟨g, 0, p, q, rfl, (Array.getElem?_eq_some_iff.1 hh).1, hx, hoi⟩
set_option maxRecDepth 100000 in
set_option maxHeartbeats 4000000 in
theorem spec_least (n : Nat) (a : Option Addr) (zs : List Int) (c : Nat) (w : World) (hr : ints.Reads .i64 w a zs) (hk : tab.tabB n zs = true) :
    Calls Try.prog 115 #[.int .i64 n, .slice a zs.length c] w (RetIB (bs n zs (wts n) (wts n).length).1 (bs n zs (wts n) (wts n).length).2 w) := by
  obtain ⟨m0, he, h4, hpw, h16, hrg⟩ := tab_nat hk
  obtain rfl : n = m0 := by omega
  have HR := Lib.hid hr
  have HK := Lib.hid hk
  clear hk hpw hrg he hr
  go_enter Try.func115, Try.ntmps115
  go_wp2_with fail
  refine (spec_weights n w h4).mono ?_
  rintro e w1 ⟨v, rfl, hog, hb1⟩
  obtain ⟨ao, co, hvo, _, _, _⟩ := hog.slice
  subst hvo
  have HG := Lib.hid hog
  have HB1 := Lib.hid hb1
  have hs1 := hb1.size
  have hlen := wts_length n
  have hp7 := pow7 h4
  have hl24 : (wts n).length ≤ 2401 := by omega
  have HRW := Lib.hid (fun r (hr : r ∈ wts n) => (wts_row hr).1)
  have HW3 := Lib.hid (fun r (hr : r ∈ wts n) => w3_row hr)
  clear hog hb1 hlen hp7
  generalize wts n = rows at *
  have HOE := Lib.hid ((own_empty w1).mono (hi' := (w1.alloc (.cells #[] 3)).heap.size) hs1 (by simp))
  have HBE := Lib.hid (below_alloc w1 (.cells #[] 3))
  go_wp2_with fail
  go_loopw [7, 8, 9] (fun v f i wr => ∃ (k : Nat), k ≤ rows.length ∧ i = .int .i64 k ∧ f = .bool (bs n zs rows k).2 ∧ Hid (OwnI w.heap.size wr.heap.size wr v (bs n zs rows k).1) ∧ Hid (Below w1.heap.size w1 wr)) (fun _ _ i _ => rows.length - (intOf i).toNat)
  case atStart => exact ⟨0, Nat.zero_le _, rfl, rfl, HOE, HBE⟩
  case round =>
    obtain ⟨k, hk, rfl, rfl, HO, HBl⟩ := hrel
    clear HOE HBE
    have HBW := Lib.hid (HB1.out.trans (HBl.out.mono hs1))
    have hsl := HBl.out.size
    by_cases hlt : k < rows.length
    · obtain ⟨bl, off, p, q, hpe, hbl, hc, hoi⟩ := ownG_at (HG.out.below HBl.out) hlt
      subst hpe
      obtain ⟨pb, qb, hvb, hrb, _, _⟩ := HO.out.slice
      subst hvb
      have hmem : rows.getD k [] ∈ rows := by rw [List.getD_eq_getElem?_getD, List.getElem?_eq_getElem hlt]; exact List.getElem_mem hlt
      have HLr := Lib.hid (HRW.out _ hmem)
      have hr4 : (rows.getD k []).length ≤ 4 := by have := HLr.out; omega
      have HWr := Lib.hid (HW3.out _ hmem)
      have hbr := bs_row n zs rows k hk
      have HWb := Lib.hid (show W3 (bs n zs rows k).1 from by rcases hbr with e | e; · rw [e]; exact w3_nil
                                                              · exact HW3.out _ e)
      have hb4 : (bs n zs rows k).1.length ≤ 4 := by
        rcases hbr with e | e
        · rw [e]; simp
        · have := HRW.out _ e; omega
      obtain ⟨_, _, e3, hrr, _, _⟩ := hoi.slice
      cases e3
      have HRR := Lib.hid hrr
      have HRB := Lib.hid hrb
      have HOI := Lib.hid (hoi.mono (hi' := wr.heap.size) (Nat.le_refl _) hsl)
      have i1 : (0 : Int) ≤ (k : Int) := by omega
      have i2 : (k : Int) < (rows.length : Int) := by omega
      have HCS1 := Lib.hid (fun (m : Nat) => spec_size p (rows.getD k []) q (wr.drewN m) HRR.out hr4 HWr.out)
      have HCS2 := Lib.hid (fun (m : Nat) => spec_size pb (bs n zs rows k).1 qb (wr.drewN m) HRB.out hb4 HWb.out)
      have HCP := Lib.hid (fun (m : Nat) => spec_parts n a zs c p (rows.getD k []) q (wr.drewN m) (HR.out.below (ints.below_drewN HBW.out m)) HRR.out HK.out HLr.out HWr.out)
      have HKP := Lib.hid (fun h1 h2 => bs_keep (n := n) (i := k) (zs := zs) (rows := rows) h1 h2)
      have HNO := Lib.hid (fun h => bs_no (n := n) (i := k) (zs := zs) (rows := rows) h)
      have HTK := Lib.hid (fun h1 h2 => bs_take (n := n) (i := k) (zs := zs) (rows := rows) h1 h2)
      clear hmem hbr hrr hrb hoi HLr HWr HWb
      obtain ⟨B, hB⟩ : ∃ B, B = bs n zs rows k := ⟨_, rfl⟩
      rw [← hB] at HKP HNO HTK HCS2 HO HRB hb4 ⊢
      clear hB
      obtain ⟨bw, bf⟩ := B
      simp only [] at HKP HNO HTK HCS2 HO HRB hb4 ⊢
      generalize rows.getD k [] = r at *
      cases bf
      · go_wp2_with fail
        have HCPm := Lib.hid (HCP.out 0)
        have hcX : (wr.drewN 0).cell? ⟨bl, off + k, none⟩ = some (.slice p r.length q) := hc
        have HBX := Lib.hid (ints.below_drewN (Below.refl wr.heap.size wr) 0)
        clear HCP HCS1 HCS2 HKP
        change Hid (Calls _ _ _ wr _) at HCPm
        change Hid (Below wr.heap.size wr wr) at HBX
        refine HCPm.out.mono ?_
        rintro e w3 ⟨rfl, hb3⟩
        have HB3 := Lib.hid (HBX.out.trans (hb3.mono HBX.out.size))
        have hc3 := cell_below HB3.out hc hbl
        have hs3 := HB3.out.size
        have HOr := Lib.hid ((HOI.out.below HB3.out).mono (lo' := w.heap.size) (hi' := w3.heap.size) (Nat.le_refl _) hs3)
        have HOb := Lib.hid ((HO.out.below HB3.out).mono (lo' := w.heap.size) (hi' := w3.heap.size) (Nat.le_refl _) hs3)
        have HBn := Lib.hid (HBl.out.trans (HB3.out.mono hsl))
        clear hb3 HCPm hc hcX
        cases hpp : partsB n zs r
        · have HE := Lib.hid (HNO.out hpp)
          clear HNO HTK hpp
          go_wp2_with fail
          go_roundw
          case rel => exact ⟨k + 1, by omega, by go_num, by rw [HE.out], by rw [HE.out]; exact HOb, HBn⟩
          case measure => simp [intOf]; omega
        · have HE := Lib.hid (HTK.out (by simp) hpp)
          clear HNO HTK hpp
          go_wp2_with fail
          go_roundw
          case rel => exact ⟨k + 1, by omega, by go_num, by rw [HE.out], by rw [HE.out]; exact HOr, HBn⟩
          case measure => simp [intOf]; omega
      · have HS1 := HCS1
        go_wp2_with fail
        refine (HCS1.out 0).mono ?_
        rintro e w' ⟨rfl, m1, rfl⟩
        rw [World.drewN_drewN, Nat.zero_add]
        go_wp2_with fail
        refine (HCS2.out m1).mono ?_
        rintro e w' ⟨rfl, m2, rfl⟩
        rw [World.drewN_drewN]
        by_cases hle : size bw ≤ size r
        · have HE := Lib.hid (HKP.out (by first | rfl | trivial) hle)
          have HBn := Lib.hid (ints.below_drewN HBl.out (m1 + m2))
          have HOb := Lib.hid (show OwnI w.heap.size (wr.drewN (m1 + m2)).heap.size (wr.drewN (m1 + m2)) (.slice pb bw.length qb) bw from HO.out)
          clear HNO HTK HCP HCS1 HCS2 HKP
          generalize wr.drewN (m1 + m2) = wX at *
          generalize size bw = sb at *
          generalize size r = sr at *
          go_wp2_with fail
          go_roundw
          case rel => exact ⟨k + 1, by omega, by go_num, by rw [HE.out], by rw [HE.out]; exact HOb, HBn⟩
          case measure => simp [intOf]; omega
        · have hgt : ¬ (size bw ≤ size r) := hle
          have hneg : ¬ (True ∧ size bw ≤ size r) := fun h => hle h.2
          have HNEG := Lib.hid (show ¬ (true = true ∧ size bw ≤ size r) from fun h => hle h.2)
          have HTK2 := Lib.hid (fun h => HTK.out (by first | exact HNEG.out | exact hneg | exact hgt | (simp; omega)) h)
          clear HTK
          have HTK := HTK2
          clear HTK2
          clear hneg hle
          generalize size bw = sb at *
          generalize size r = sr at *
          have HCPm := Lib.hid (HCP.out (m1 + m2))
          have hcX : (wr.drewN (m1 + m2)).cell? ⟨bl, off + k, none⟩ = some (.slice p r.length q) := hc
          have HBX := Lib.hid (ints.below_drewN (Below.refl wr.heap.size wr) (m1 + m2))
          clear HCP HCS1 HCS2 HKP
          generalize wr.drewN (m1 + m2) = wX at *
          go_wp2_with fail
          refine HCPm.out.mono ?_
          rintro e w3 ⟨rfl, hb3⟩
          have HB3 := Lib.hid (HBX.out.trans (hb3.mono HBX.out.size))
          have hc3 := cell_below HB3.out hc hbl
          have hs3 := HB3.out.size
          have HOr := Lib.hid ((HOI.out.below HB3.out).mono (lo' := w.heap.size) (hi' := w3.heap.size) (Nat.le_refl _) hs3)
          have HOb := Lib.hid ((HO.out.below HB3.out).mono (lo' := w.heap.size) (hi' := w3.heap.size) (Nat.le_refl _) hs3)
          have HBn := Lib.hid (HBl.out.trans (HB3.out.mono hsl))
          clear hb3 HCPm hc hcX
          cases hpp : partsB n zs r
          · have HE := Lib.hid (HNO.out hpp)
            clear HNO HTK hpp
            go_wp2_with fail
            go_roundw
            case rel => exact ⟨k + 1, by omega, by go_num, by rw [HE.out], by rw [HE.out]; exact HOb, HBn⟩
            case measure => simp [intOf]; omega
          · have HE := Lib.hid (HTK.out hpp)
            clear HNO HTK hpp
            go_wp2_with fail
            go_roundw
            case rel => exact ⟨k + 1, by omega, by go_num, by rw [HE.out], by rw [HE.out]; exact HOr, HBn⟩
            case measure => simp [intOf]; omega
    · obtain rfl : k = rows.length := by omega
      have HF := Lib.hid (show RetIB (bs n zs rows rows.length).1 (bs n zs rows rows.length).2 w (.returned (.tuple #[u7, .bool (bs n zs rows rows.length).2])) wr from ⟨u7, rfl, HO.out, HBW.out⟩)
      go_wp2_with fail
      go_ret2
      exact HF.out
end Go.Proofs.Ytldimbipjjjghaa.least5
