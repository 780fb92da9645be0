/- Several texts in one. -/
import Derived.BigQuiet
import Derived.Test.YtldimbipjjjghaaLpH11
import Derived.Test.YtldimbipjjjghaaLpH14
namespace Go.Proofs.Ytldimbipjjjghaa.trade
open Go.RowKit own pp nums range tab bitw dig pairw
set_option linter.unusedVariables false
set_option linter.unusedSimpArgs false

def eqBits (n a b c d : Nat) : Bool := (List.range n).all fun i => decide (ds a b i = ds c d i)
theorem eq_at {n a b c d : Nat} (h : eqBits n a b c d = true) (i : Nat) (hi : i < n) : ds a b i = ds c d i := by
  unfold eqBits at h
  rw [List.all_eq_true] at h
  exact of_decide_eq_true (h i (List.mem_range.2 hi))
theorem eq_all {n a b c d : Nat} (h : ∀ i, i < n → ds a b i = ds c d i) : eqBits n a b c d = true := by
  unfold eqBits
  rw [List.all_eq_true]
  intro i hi
  exact decide_eq_true (h i (List.mem_range.1 hi))
theorem eq_no {n a b c d : Nat} (i : Nat) (hi : i < n) (h : ds a b i ≠ ds c d i) : eqBits n a b c d = false := by
  cases hx : eqBits n a b c d
  · rfl
  · exact absurd (eq_at hx i hi) h
theorem eq_four {n a b c d : Nat} (h4 : n ≤ 4) (ha : a < 2 ^ n) (hb : b < 2 ^ n) (hc : c < 2 ^ n) (hd : d < 2 ^ n) : eqBits n a b c d = eqBits 4 a b c d := by
  have key : ∀ x i, x < 2 ^ n → n ≤ i → x / 2 ^ i % 2 = 0 := fun x i hx hi => by
    rw [Nat.div_eq_of_lt (Nat.lt_of_lt_of_le hx (Nat.pow_le_pow_right (by omega) hi))]
  rw [Bool.eq_iff_iff]
  constructor
  · intro h
    refine eq_all fun i hi => ?_
    by_cases e : i < n
    · exact eq_at h i e
    · unfold ds
      rw [key a i ha (by omega), key b i hb (by omega), key c i hc (by omega), key d i hd (by omega)]
  · intro h
    exact eq_all fun i hi => eq_at h i (by omega)
/-- Whether four places are a trade. -/
def trN (n : Nat) (zs : List Int) (a b c d : Nat) : Bool := (decide (a ≤ b) && decide (c ≤ d)) && ((decide (zs.getD a 0 + zs.getD b 0 = 2) && decide (zs.getD c 0 + zs.getD d 0 = 0)) && eqBits n a b c d)
def tradeB (n : Nat) (zs ts : List Int) : Bool := (decide (ts.length = 4) && numsR 0 ((zs.length : Int) - 1) ts) && trN n zs (ts.getD 0 0).toNat (ts.getD 1 0).toNat (ts.getD 2 0).toNat (ts.getD 3 0).toNat
theorem trade_len {n : Nat} {zs ts : List Int} (h : ts.length ≠ 4) : tradeB n zs ts = false := by
  unfold tradeB; rw [decide_eq_false h]; rfl
theorem trade_out {n : Nat} {zs ts : List Int} (h : numsR 0 ((zs.length : Int) - 1) ts = false) : tradeB n zs ts = false := by
  unfold tradeB; rw [h, Bool.and_false]; rfl
theorem trade_in {n : Nat} {zs ts : List Int} (hl : ts.length = 4) (h : numsR 0 ((zs.length : Int) - 1) ts = true) {a b c d : Nat} (ha : ts.getD 0 0 = a) (hb : ts.getD 1 0 = b) (hc : ts.getD 2 0 = c) (hd : ts.getD 3 0 = d) : tradeB n zs ts = trN n zs a b c d := by
  unfold tradeB
  rw [h, decide_eq_true hl, ha, hb, hc, hd]; rfl
theorem in_nat {zs ts : List Int} (h : numsR 0 ((zs.length : Int) - 1) ts = true) (i : Nat) (hi : i < ts.length) : ∃ x : Nat, ts.getD i 0 = x ∧ x < zs.length := by
  have := numsR_at h i hi
  exact ⟨(ts.getD i 0).toNat, by omega, by omega⟩
end Go.Proofs.Ytldimbipjjjghaa.trade

namespace Go.Proofs.Ytldimbipjjjghaa.findp
open Go.RowKit own pp nums range tab pairw trade
set_option linter.unusedVariables false
set_option linter.unusedSimpArgs false

/-- The first number below N where p holds. -/
def first (p : Nat → Bool) : Nat → Option Nat
  | 0 => none
  | k + 1 => match first p k with
    | some x => some x
    | none => if p k then some k else none
theorem first_none {p : Nat → Bool} {N : Nat} (h : ∀ j, j < N → p j = false) : first p N = none := by
  induction N with
  | zero => rfl
  | succ N ih => rw [first, ih (fun j hj => h j (by omega)), h N (by omega)]; rfl
theorem first_some {p : Nat → Bool} {k N : Nat} (hk : p k = true) (h : ∀ j, j < k → p j = false) (hN : k < N) : first p N = some k := by
  induction N with
  | zero => omega
  | succ N ih =>
    by_cases e : k < N
    · rw [first, ih e]
    · obtain rfl : k = N := by omega
      rw [first, first_none h, hk]; rfl
/-- Four places as one number. -/
def okC (n : Nat) (zs : List Int) (k : Nat) : Bool := decide ((k / 4096 < zs.length ∧ k / 256 % 16 < zs.length) ∧ (k / 16 % 16 < zs.length ∧ k % 16 < zs.length)) && trN n zs (k / 4096) (k / 256 % 16) (k / 16 % 16) (k % 16)
def code (a b c d : Nat) : Nat := a * 4096 + b * 256 + c * 16 + d
def dec (k : Nat) : List Int := [((k / 4096 : Nat) : Int), ((k / 256 % 16 : Nat) : Int), ((k / 16 % 16 : Nat) : Int), ((k % 16 : Nat) : Int)]
def findN (N n : Nat) (zs : List Int) : List Int := match first (okC n zs) N with
  | some k => dec k
  | none => []
theorem findN_none {N n : Nat} {zs : List Int} (h : ∀ j, j < N → okC n zs j = false) : findN N n zs = [] := by
  unfold findN
  rw [first_none h]
theorem findN_hit {N n k : Nat} {zs : List Int} (hk : okC n zs k = true) (h : ∀ j, j < k → okC n zs j = false) (hN : k < N) : findN N n zs = dec k := by
  unfold findN
  rw [first_some hk h hN]
theorem findN_len (N n : Nat) (zs : List Int) : (findN N n zs).length ≤ 4 := by
  unfold findN
  cases first (okC n zs) N <;> simp [dec]
def findT (n : Nat) (zs : List Int) : List Int := findN 65536 n zs
theorem code_dec {a b c d : Nat} (ha : a < 16) (hb : b < 16) (hc : c < 16) (hd : d < 16) : code a b c d / 4096 = a ∧ code a b c d / 256 % 16 = b ∧ code a b c d / 16 % 16 = c ∧ code a b c d % 16 = d := by
  unfold code; omega
theorem okC_at {n : Nat} {zs : List Int} (hz : zs.length ≤ 16) {a b c d : Nat} (ha : a < zs.length) (hb : b < zs.length) (hc : c < zs.length) (hd : d < zs.length) : okC n zs (code a b c d) = trN n zs a b c d := by
  obtain ⟨h1, h2, h3, h4⟩ := code_dec (a := a) (b := b) (c := c) (d := d) (by omega) (by omega) (by omega) (by omega)
  unfold okC
  rw [h1, h2, h3, h4, decide_eq_true ⟨⟨ha, hb⟩, hc, hd⟩, Bool.true_and]
theorem okC_in {n : Nat} {zs : List Int} {k : Nat} (h : okC n zs k = true) : ((k / 4096 < zs.length ∧ k / 256 % 16 < zs.length) ∧ (k / 16 % 16 < zs.length ∧ k % 16 < zs.length)) ∧ trN n zs (k / 4096) (k / 256 % 16) (k / 16 % 16) (k % 16) = true := by
  unfold okC at h
  rw [Bool.and_eq_true, decide_eq_true_eq] at h
  exact h
theorem tr_in {n : Nat} {zs : List Int} {a b c d : Nat} (h : trN n zs a b c d = true) : (a ≤ b ∧ c ≤ d) ∧ (zs.getD a 0 + zs.getD b 0 = 2 ∧ zs.getD c 0 + zs.getD d 0 = 0) ∧ eqBits n a b c d = true := by
  unfold trN at h
  simp only [Bool.and_eq_true, decide_eq_true_eq] at h
  exact h
theorem find_hit {n : Nat} {zs : List Int} (hz : zs.length ≤ 16) {a b c d : Nat} (ha : a < zs.length) (hb : b < zs.length) (hc : c < zs.length) (hd : d < zs.length) (ht : trN n zs a b c d = true) (h : ∀ j, j < code a b c d → okC n zs j = false) : findT n zs = [(a : Int), (b : Int), (c : Int), (d : Int)] := by
  obtain ⟨h1, h2, h3, h4⟩ := code_dec (a := a) (b := b) (c := c) (d := d) (by omega) (by omega) (by omega) (by omega)
  have e : dec (code a b c d) = [(a : Int), (b : Int), (c : Int), (d : Int)] := by
    unfold dec
    rw [h1, h2, h3, h4]
  rw [← e]
  exact findN_hit (by rw [okC_at hz ha hb hc hd]; exact ht) h (by unfold code; omega)
theorem find_none {n : Nat} {zs : List Int} (h : ∀ j, j < 65536 → okC n zs j = false) : findT n zs = [] := findN_none h
/-- Numbers from x on where it holds not either. -/
theorem adv {n : Nat} {zs : List Int} {x y : Nat} (h : ∀ j, j < x → okC n zs j = false) (hs : ∀ j, x ≤ j → j < y → okC n zs j = true → False) : ∀ j, j < y → okC n zs j = false := by
  intro j hj
  by_cases e : j < x
  · exact h j e
  · cases hx : okC n zs j
    · rfl
    · exact (hs j (by omega) hj hx).elim
theorem find_len (n : Nat) (zs : List Int) : (findT n zs).length ≤ 4 := findN_len 65536 n zs
end Go.Proofs.Ytldimbipjjjghaa.findp

namespace Go.Proofs.Ytldimbipjjjghaa.finds
open Go.RowKit own pp nums range tab pairw trade findp
set_option linter.unusedVariables false
set_option linter.unusedSimpArgs false

end Go.Proofs.Ytldimbipjjjghaa.finds
