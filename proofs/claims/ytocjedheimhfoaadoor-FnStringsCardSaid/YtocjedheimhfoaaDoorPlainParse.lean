/- Reading a decimal text, as plain functions on lists of bytes, and what holds of the texts that numbers have: no condition. -/
import Derived.Lib.ItoaNum
import Derived.Lib.ItoaLen
import Derived.Lib.Hide
namespace Go.Proofs.YtocjedheimhfoaaDoor.pparse
open Go.RowKit

def isDigit (c : UInt8) : Prop := 48 ≤ (c.toNat : Int) ∧ (c.toNat : Int) ≤ 57

/-- The value of digits, behind a number that has been read. -/
def dv (a : Int) (l : List UInt8) : Int := l.foldl (fun a c => 10 * a + ((c.toNat : Int) - 48)) a

theorem dv_snoc (a : Int) (l : List UInt8) (c : UInt8) : dv a (l ++ [c]) = 10 * dv a l + ((c.toNat : Int) - 48) := by
  simp [dv, List.foldl_append]

theorem dv_append (a : Int) (l r : List UInt8) : dv a (l ++ r) = dv (dv a l) r := by simp [dv, List.foldl_append]

theorem dv_ge (l : List UInt8) : ∀ a : Int, 0 ≤ a → (∀ c ∈ l, isDigit c) → a ≤ dv a l := by
  induction l with
  | nil => intro a _ _; exact Int.le_refl _
  | cons c r ih =>
    intro a h0 hd
    have hc := hd c (by simp)
    unfold isDigit at hc
    have := ih (10 * a + ((c.toNat : Int) - 48)) (by omega) (fun x hx => hd x (by simp [hx]))
    show a ≤ dv (10 * a + ((c.toNat : Int) - 48)) r
    omega

theorem dv_take_le (l : List UInt8) (k : Nat) (hd : ∀ c ∈ l, isDigit c) : dv 0 (l.take k) ≤ dv 0 l := by
  have e : dv 0 l = dv (dv 0 (l.take k)) (l.drop k) := by rw [← dv_append, List.take_append_drop]
  rw [e]
  exact dv_ge _ _ (dv_ge _ 0 (Int.le_refl _) fun c hc => hd c (List.mem_of_mem_take hc)) (fun c hc => hd c (List.mem_of_mem_drop hc))

theorem digit_of (d : Nat) (h : d < 10) : ((UInt8.ofNat (48 + d)).toNat : Int) = 48 + d := by
  have : (UInt8.ofNat (48 + d)).toNat = 48 + d := by
    rw [UInt8.toNat_ofNat']
    omega
  rw [this]
  omega

theorem digits_dec : ∀ (f u : Nat), u < 10 ^ (f + 1) → (∀ c ∈ Lib.decDigits u, isDigit c) ∧ dv 0 (Lib.decDigits u) = u ∧ 0 < (Lib.decDigits u).length := by
  intro f
  induction f with
  | zero =>
    intro u h
    have hu : u < 10 := by simpa using h
    rw [Lib.decDigits_one hu]
    refine ⟨fun c hc => ?_, ?_, by simp⟩
    · rw [List.mem_singleton] at hc; subst hc; unfold isDigit; rw [digit_of u hu]; omega
    · simp only [dv, List.foldl_cons, List.foldl_nil]; rw [digit_of u hu]; omega
  | succ f ih =>
    intro u h
    by_cases hu : u < 10
    · rw [Lib.decDigits_one hu]
      refine ⟨fun c hc => ?_, ?_, by simp⟩
      · rw [List.mem_singleton] at hc; subst hc; unfold isDigit; rw [digit_of u hu]; omega
      · simp only [dv, List.foldl_cons, List.foldl_nil]; rw [digit_of u hu]; omega
    · have hp : 10 ^ (f + 1 + 1) = 10 * 10 ^ (f + 1) := by rw [Nat.pow_succ, Nat.mul_comm]
      obtain ⟨h1, h2, h3⟩ := ih (u / 10) (by rw [hp] at h; omega)
      rw [Lib.decDigits.eq_1 u, dif_neg hu]
      refine ⟨fun c hc => ?_, ?_, by simp⟩
      · rcases List.mem_append.1 hc with hc | hc
        · exact h1 c hc
        · rw [List.mem_singleton] at hc; subst hc; unfold isDigit; rw [digit_of _ (by omega)]; omega
      · rw [dv_snoc, h2, digit_of _ (by omega)]; omega

theorem dec (u : Nat) (h : u ≤ 999999) : (∀ c ∈ Lib.decDigits u, isDigit c) ∧ dv 0 (Lib.decDigits u) = u ∧ 0 < (Lib.decDigits u).length := digits_dec 5 u (by omega)

theorem dec_length (u : Nat) (h : u ≤ 999999) : (Lib.decDigits u).length ≤ 6 := by
  rw [Lib.decDigits_length]
  have a := Lib.nDigits_pos u
  by_cases h0 : u < 10
  · rw [Lib.nDigits_small h0]; omega
  · by_cases h1 : u < 100
    · rw [Lib.nDigits_unique 1 u (by omega) (by omega)]; omega
    · by_cases h2 : u < 1000
      · rw [Lib.nDigits_unique 2 u (by omega) (by omega)]; omega
      · by_cases h3 : u < 10000
        · rw [Lib.nDigits_unique 3 u (by omega) (by omega)]; omega
        · by_cases h4 : u < 100000
          · rw [Lib.nDigits_unique 4 u (by omega) (by omega)]; omega
          · rw [Lib.nDigits_unique 5 u (by omega) (by omega)]; omega

/-- The text of a number in range. -/
def P (s : ByteArray) (n : Int) : Prop := -999999 ≤ n ∧ n ≤ 999999 ∧ s.data.toList = Lib.itoa n

theorem P_pos {s : ByteArray} {n : Int} (h : P s n) (h0 : 0 ≤ n) : s.data.toList = Lib.decDigits n.natAbs := by
  rw [h.2.2, Lib.itoa, if_neg (by omega)]
  congr 1
  omega

theorem P_neg {s : ByteArray} {n : Int} (h : P s n) (h0 : n < 0) : s.data.toList = 45 :: Lib.decDigits n.natAbs := by
  rw [h.2.2, Lib.itoa, if_pos h0]

theorem not_45 {c : UInt8} (h : isDigit c) : c ≠ 45 := by
  intro e
  subst e
  unfold isDigit at h
  simp at h

/-- Sign and value behind some bytes, where nothing else has come. -/
def sv (p : Int × Int) (l : List UInt8) : Int × Int := l.foldl (fun p c => if c = 45 then (-1, p.2) else (p.1, 10 * p.2 + ((c.toNat : Int) - 48))) p

theorem sv_snoc (p : Int × Int) (l : List UInt8) (c : UInt8) : sv p (l ++ [c]) = if c = 45 then (-1, (sv p l).2) else ((sv p l).1, 10 * (sv p l).2 + ((c.toNat : Int) - 48)) := by
  simp [sv, List.foldl_append]

theorem sv_digits (l : List UInt8) : ∀ p : Int × Int, (∀ c ∈ l, isDigit c) → sv p l = (p.1, dv p.2 l) := by
  induction l with
  | nil => intro p _; rfl
  | cons c r ih =>
    intro p hd
    have hc := not_45 (hd c (by simp))
    show sv (if c = 45 then (-1, p.2) else (p.1, 10 * p.2 + ((c.toNat : Int) - 48))) r = _
    rw [if_neg hc, ih _ (fun x hx => hd x (by simp [hx]))]
    rfl

theorem sv_next (s : ByteArray) (k : Nat) (h : k < s.size) : sv (1, 0) (s.data.toList.take (k + 1)) = if s[k] = 45 then (-1, (sv (1, 0) (s.data.toList.take k)).2) else ((sv (1, 0) (s.data.toList.take k)).1, 10 * (sv (1, 0) (s.data.toList.take k)).2 + ((s[k].toNat : Int) - 48)) := by
  rw [List.take_succ_eq_append_getElem (by simpa using h), sv_snoc]
  rfl

/-- What stands in such a text: a sign at the beginning, else digits, and what has been read so far is in range. -/
theorem P_at {s : ByteArray} {n : Int} (h : P s n) (k : Nat) (hk : k < s.size) : (s[k] = 45 ∧ k = 0) ∨ (isDigit s[k] ∧ (sv (1, 0) (s.data.toList.take k)).2 ≤ 999999) := by
  obtain ⟨hd1, hd2, hd3⟩ := dec n.natAbs (by have := h.1; have := h.2.1; omega)
  have hn : (n.natAbs : Int) ≤ 999999 := by have := h.1; have := h.2.1; omega
  by_cases h0 : 0 ≤ n
  · right
    have e := P_pos h h0
    have hk' : k < (Lib.decDigits n.natAbs).length := by rw [← e]; simpa using hk
    have hm : s[k] ∈ Lib.decDigits n.natAbs := by rw [← e]; exact List.getElem_mem (l := s.data.toList) (by simpa using hk)
    refine ⟨hd1 _ hm, ?_⟩
    rw [e, sv_digits _ _ fun c hc => hd1 c (List.mem_of_mem_take hc)]
    have := dv_take_le _ k hd1
    show dv 0 _ ≤ _
    omega
  · have e := P_neg h (by omega)
    cases k with
    | zero =>
      left
      refine ⟨?_, rfl⟩
      have : s.data.toList[0]? = some 45 := by rw [e]; rfl
      rw [List.getElem?_eq_getElem (by simpa using hk)] at this
      exact Option.some.inj this
    | succ j =>
      right
      have hj : s.data.toList[j + 1]? = (Lib.decDigits n.natAbs)[j]? := by rw [e]; rfl
      rw [List.getElem?_eq_getElem (by simpa using hk)] at hj
      have hm : s[j + 1] ∈ Lib.decDigits n.natAbs := List.mem_of_getElem? hj.symm
      refine ⟨hd1 _ hm, ?_⟩
      have e2 : s.data.toList.take (j + 1) = 45 :: (Lib.decDigits n.natAbs).take j := by rw [e]; rfl
      have e3 : sv (1, 0) (45 :: (Lib.decDigits n.natAbs).take j) = sv (-1, 0) ((Lib.decDigits n.natAbs).take j) := rfl
      rw [e2, e3, sv_digits _ _ fun c hc => hd1 c (List.mem_of_mem_take hc)]
      have := dv_take_le _ j hd1
      show dv 0 _ ≤ _
      omega

theorem P_all {s : ByteArray} {n : Int} (h : P s n) : (sv (1, 0) (s.data.toList.take s.size)).1 * (sv (1, 0) (s.data.toList.take s.size)).2 = n := by
  obtain ⟨hd1, hd2, hd3⟩ := dec n.natAbs (by have := h.1; have := h.2.1; omega)
  rw [List.take_of_length_le (by simp)]
  by_cases h0 : 0 ≤ n
  · rw [P_pos h h0, sv_digits _ _ hd1]
    show 1 * dv 0 _ = n
    omega
  · rw [P_neg h (by omega)]
    have e3 : sv (1, 0) (45 :: Lib.decDigits n.natAbs) = sv (-1, 0) (Lib.decDigits n.natAbs) := rfl
    rw [e3, sv_digits _ _ hd1]
    show -1 * dv 0 _ = n
    omega

theorem P_inj {s : ByteArray} {n m : Int} (h : P s n) (h' : P s m) : n = m := by rw [← P_all h, ← P_all h']

/-- What is left of a number's text behind its sign. -/
def Body (s t : ByteArray) (g : Int) : Prop := ∀ n, P s n → t.data.toList = Lib.decDigits n.natAbs ∧ n = g * (n.natAbs : Int) ∧ n.natAbs ≤ 999999

theorem body_pos (s : ByteArray) (h : s.size ≤ 1 ∨ s.data.toList[0]? ≠ some 45) : Body s s 1 := by
  intro n hn
  have hb : n.natAbs ≤ 999999 := by have := hn.1; have := hn.2.1; omega
  by_cases h0 : 0 ≤ n
  · exact ⟨P_pos hn h0, by omega, hb⟩
  · exfalso
    have e := P_neg hn (by omega)
    obtain ⟨_, _, hd3⟩ := dec n.natAbs hb
    rcases h with h | h
    · have := congrArg List.length e
      simp at this
      omega
    · apply h; rw [e]; rfl

theorem body_neg (s : ByteArray) (h : s.data.toList[0]? = some 45) : Body s (s.extract 1 s.size) (-1) := by
  intro n hn
  have hb : n.natAbs ≤ 999999 := by have := hn.1; have := hn.2.1; omega
  by_cases h0 : 0 ≤ n
  · exfalso
    have e := P_pos hn h0
    rw [e] at h
    exact not_45 ((dec n.natAbs hb).1 45 (List.mem_of_getElem? h)) rfl
  · refine ⟨?_, by omega, hb⟩
    have e := P_neg hn (by omega)
    have e2 : (s.extract 1 s.size).data.toList = s.data.toList.drop 1 := by
      simp
      rw [List.take_of_length_le (by simp)]
    rw [e2, e]
    rfl

theorem body_len {s t : ByteArray} {g : Int} (hB : Body s t g) (h : t.size < 1 ∨ 6 < t.size) : ∀ n, ¬ P s n := by
  intro n hn
  obtain ⟨e, _, hb⟩ := hB n hn
  have hl := dec_length _ hb
  have h3 := (dec _ hb).2.2
  have := congrArg List.length e
  simp at this
  omega

theorem body_digit {s t : ByteArray} {g : Int} (hB : Body s t g) (k : Nat) (hk : k < t.size) (h : ¬ isDigit t[k]) : ∀ n, ¬ P s n := by
  intro n hn
  obtain ⟨e, _, hb⟩ := hB n hn
  apply h
  refine (dec _ hb).1 _ ?_
  rw [← e]
  exact List.getElem_mem (l := t.data.toList) (by simpa using hk)

theorem body_value {s t : ByteArray} {g : Int} (hB : Body s t g) : ∀ n, P s n → n = g * dv 0 t.data.toList := by
  intro n hn
  obtain ⟨e, e2, hb⟩ := hB n hn
  rw [e, (dec _ hb).2.1]
  exact e2

theorem dv_bound (l : List UInt8) (h : ∀ c ∈ l, isDigit c) : ∀ a : Int, 0 ≤ a → 0 ≤ dv a l ∧ dv a l + 1 ≤ (a + 1) * 10 ^ l.length := by
  induction l with
  | nil => intro a h0; simp [dv]; omega
  | cons c r ih =>
    intro a h0
    have hc := h c (by simp)
    unfold isDigit at hc
    obtain ⟨h1, h2⟩ := ih (fun x hx => h x (by simp [hx])) (10 * a + ((c.toNat : Int) - 48)) (by omega)
    refine ⟨h1, Int.le_trans h2 ?_⟩
    rw [List.length_cons, Int.pow_succ, Int.mul_comm (10 ^ r.length) 10, ← Int.mul_assoc]
    exact Int.mul_le_mul_of_nonneg_right (by omega) (Int.le_of_lt (Int.pow_pos (by omega)))

theorem dv6 (l : List UInt8) (h : ∀ c ∈ l, isDigit c) (hl : l.length ≤ 6) : 0 ≤ dv 0 l ∧ dv 0 l ≤ 999999 := by
  obtain ⟨h1, h2⟩ := dv_bound l h 0 (Int.le_refl _)
  refine ⟨h1, ?_⟩
  have h3 : (10 : Int) ^ l.length ≤ 10 ^ 6 := by
    match l.length, hl with
    | 0, _ => decide
    | 1, _ => decide
    | 2, _ => decide
    | 3, _ => decide
    | 4, _ => decide
    | 5, _ => decide
    | 6, _ => decide
  omega

theorem dv_next (s : ByteArray) (k : Nat) (h : k < s.size) : dv 0 (s.data.toList.take (k + 1)) = 10 * dv 0 (s.data.toList.take k) + ((s[k].toNat : Int) - 48) := by
  rw [List.take_succ_eq_append_getElem (by simpa using h), dv_snoc]
  rfl

theorem digits_next (s : ByteArray) (k : Nat) (h : k < s.size) (hd : ∀ c ∈ s.data.toList.take k, isDigit c) (hk : isDigit s[k]) : ∀ c ∈ s.data.toList.take (k + 1), isDigit c := by
  rw [List.take_succ_eq_append_getElem (by simpa using h)]
  intro c hc
  rcases List.mem_append.1 hc with hc | hc
  · exact hd c hc
  · rw [List.mem_singleton] at hc; subst hc; exact hk
end Go.Proofs.YtocjedheimhfoaaDoor.pparse
