/- Threshold tables are the tables without trades: plain lemmas, no condition. -/
import Derived.Test.YtchlkcmgonbcjaaThrC
import Derived.Test.YtchlkcmgonbcjaaLeast
import Derived.Test.YtchlkcmgonbcjaaFindP
namespace Go.Proofs.Ytchlkcmgonbcjaa.thr
open Go.RowKit own pp nums range tab bitw pairw trade findp parts wts least5
set_option linter.unusedVariables false
set_option linter.unusedSimpArgs false

open thrc (enc val NoT Pl plane_of enc_ds)
/-- Where the weights part ones from other places. -/
theorem st_inv (n : Nat) (zs ws : List Int) (k : Nat) :
    (∀ a, a < k → zs.getD a 0 = 1 → 0 < (st n zs ws k).o ∧ (st n zs ws k).l ≤ pr ws n a) ∧ (0 < (st n zs ws k).o → ∃ a, a < k ∧ zs.getD a 0 = 1 ∧ (st n zs ws k).l = pr ws n a) ∧
    (∀ a, a < k → zs.getD a 0 ≠ 1 → 0 < (st n zs ws k).x ∧ pr ws n a ≤ (st n zs ws k).m) ∧ (0 < (st n zs ws k).x → ∃ a, a < k ∧ zs.getD a 0 ≠ 1 ∧ (st n zs ws k).m = pr ws n a) := by
  induction k with
  | zero => exact ⟨fun a h => by omega, fun h => by simp [st] at h, fun a h => by omega, fun h => by simp [st] at h⟩
  | succ k ih =>
    obtain ⟨i1, i2, i3, i4⟩ := ih
    by_cases hz : zs.getD k 0 = 1
    · rw [st_one hz]
      generalize st n zs ws k = s at *
      refine ⟨fun a ha h1 => ⟨by show 0 < s.o + 1; omega, ?_⟩, fun _ => ?_, fun a ha h1 => ?_, fun h => ?_⟩
      · show (if s.o = 0 ∨ pr ws n k < s.l then pr ws n k else s.l) ≤ pr ws n a
        by_cases e : a = k
        · subst e
          split <;> omega
        · have := i1 a (by omega) h1
          split <;> omega
      · show ∃ a, a < k + 1 ∧ zs.getD a 0 = 1 ∧ (if s.o = 0 ∨ pr ws n k < s.l then pr ws n k else s.l) = pr ws n a
        by_cases e : s.o = 0 ∨ pr ws n k < s.l
        · exact ⟨k, by omega, hz, by rw [if_pos e]⟩
        · obtain ⟨a, ha, h1, h2⟩ := i2 (by omega)
          exact ⟨a, by omega, h1, by rw [if_neg e]; exact h2⟩
      · have e : a ≠ k := fun e => h1 (by rw [e]; exact hz)
        exact i3 a (by omega) h1
      · obtain ⟨a, ha, h1, h2⟩ := i4 h
        exact ⟨a, by omega, h1, h2⟩
    · rw [st_other hz]
      generalize st n zs ws k = s at *
      refine ⟨fun a ha h1 => ?_, fun h => ?_, fun a ha h1 => ⟨by show 0 < s.x + 1; omega, ?_⟩, fun _ => ?_⟩
      · have e : a ≠ k := fun e => hz (by rw [← e]; exact h1)
        exact i1 a (by omega) h1
      · obtain ⟨a, ha, h1, h2⟩ := i2 h
        exact ⟨a, by omega, h1, h2⟩
      · show pr ws n a ≤ (if s.x = 0 ∨ s.m < pr ws n k then pr ws n k else s.m)
        by_cases e : a = k
        · subst e
          split <;> omega
        · have := i3 a (by omega) h1
          split <;> omega
      · show ∃ a, a < k + 1 ∧ zs.getD a 0 ≠ 1 ∧ (if s.x = 0 ∨ s.m < pr ws n k then pr ws n k else s.m) = pr ws n a
        by_cases e : s.x = 0 ∨ s.m < pr ws n k
        · exact ⟨k, by omega, hz, by rw [if_pos e]⟩
        · obtain ⟨a, ha, h1, h2⟩ := i4 (by omega)
          exact ⟨a, by omega, h1, by rw [if_neg e]; exact h2⟩
theorem parts_iff (n : Nat) (zs ws : List Int) : partsB n zs ws = true ↔ ∀ a, a < zs.length → zs.getD a 0 = 1 → ∀ c, c < zs.length → zs.getD c 0 ≠ 1 → pr ws n c < pr ws n a := by
  obtain ⟨i1, i2, i3, i4⟩ := st_inv n zs ws zs.length
  unfold partsB
  generalize st n zs ws zs.length = s at *
  simp only [Bool.or_eq_true, decide_eq_true_eq]
  constructor
  · intro h a ha h1 c hc h2
    have k1 := i1 a ha h1
    have k2 := i3 c hc h2
    rcases h with (h | h) | h <;> omega
  · intro h
    by_cases e1 : s.o = 0
    · exact .inl (.inl e1)
    · by_cases e2 : s.x = 0
      · exact .inl (.inr e2)
      · obtain ⟨a, ha, h1, h2⟩ := i2 (by omega)
        obtain ⟨c, hc, h3, h5⟩ := i4 (by omega)
        have := h a ha h1 c hc h3
        right
        omega
theorem bits_getD (k n i : Nat) (h : i < n) : (bitsTo k n).getD i 0 = ((k / 2 ^ i % 2 : Nat) : Int) := by
  simp [bitsTo, List.getD_eq_getElem?_getD, h]
theorem pr_sum {n a b c d : Nat} {ws : List Int} (hl : ws.length = n) (h : eqBits n a b c d = true) : pr ws n a + pr ws n b = pr ws n c + pr ws n d := by
  unfold pr dot
  rw [hl]
  have key : ∀ j, j ≤ n → dotTo ws (bitsTo a n) j + dotTo ws (bitsTo b n) j = dotTo ws (bitsTo c n) j + dotTo ws (bitsTo d n) j := by
    intro j
    induction j with
    | zero => intro _; simp [dotTo_zero]
    | succ j ih =>
      intro hj
      have h1 := ih (by omega)
      have h2 := eq_at h j (by omega)
      unfold ds at h2
      rw [dotTo_succ, dotTo_succ, dotTo_succ, dotTo_succ, bits_getD a n j (by omega), bits_getD b n j (by omega), bits_getD c n j (by omega), bits_getD d n j (by omega)]
      have h3 : ws.getD j 0 * ((a / 2 ^ j % 2 : Nat) : Int) + ws.getD j 0 * ((b / 2 ^ j % 2 : Nat) : Int) = ws.getD j 0 * ((c / 2 ^ j % 2 : Nat) : Int) + ws.getD j 0 * ((d / 2 ^ j % 2 : Nat) : Int) := by
        rw [← Int.mul_add, ← Int.mul_add, h2]
      omega
  exact key n (Nat.le_refl n)
/-- The weights of a number. -/
def wOf (c n : Nat) : List Int := (List.range n).map fun i => ((c / 7 ^ i % 7 : Nat) : Int) - 3
theorem wOf_length (c n : Nat) : (wOf c n).length = n := by simp [wOf]
theorem wOf_getD (c n i : Nat) (h : i < n) : (wOf c n).getD i 0 = ((c / 7 ^ i % 7 : Nat) : Int) - 3 := by simp [wOf, List.getD_eq_getElem?_getD, h]
theorem wOf_pr (c n k : Nat) : pr (wOf c n) n k = ((val c k n : Nat) : Int) - 3 * n := by
  unfold pr dot
  rw [wOf_length]
  have key : ∀ j, j ≤ n → dotTo (wOf c n) (bitsTo k n) j = ((val c k j : Nat) : Int) - 3 * j := by
    intro j
    induction j with
    | zero => intro _; simp [dotTo_zero, val]
    | succ j ih =>
      intro hj
      rw [dotTo_succ, ih (by omega), wOf_getD c n j (by omega), bits_getD k n j (by omega)]
      have h2 : k / 2 ^ j % 2 = 0 ∨ k / 2 ^ j % 2 = 1 := by omega
      rcases h2 with e | e
      · rw [val, e, if_neg (by decide)]; push_cast; omega
      · rw [val, e, if_pos (by decide)]; push_cast; omega
  exact key n (Nat.le_refl n)
theorem wOf_succ (c n : Nat) : wOf c (n + 1) = wOf c n ++ [((c / 7 ^ n % 7 : Nat) : Int) - 3] := by simp [wOf, List.range_succ]
theorem wOf_mem (c n : Nat) : wOf c n ∈ wts n := by
  induction n with
  | zero => simp [wOf, wts]
  | succ n ih =>
    rw [wOf_succ]
    show _ ∈ stepW (wts n)
    unfold stepW
    rw [List.mem_flatMap]
    refine ⟨wOf c n, ih, ?_⟩
    unfold ext
    rw [List.mem_map]
    exact ⟨c / 7 ^ n % 7, List.mem_range.2 (Nat.mod_lt _ (by decide)), rfl⟩
theorem first_nil {p : Nat → Bool} {N : Nat} (h : first p N = none) : ∀ j, j < N → p j = false := by
  induction N with
  | zero => intro j hj; omega
  | succ N ih =>
    rw [first] at h
    cases hf : first p N with
    | some x => rw [hf] at h; cases h
    | none =>
      rw [hf] at h
      intro j hj
      by_cases e : j = N
      · subst e
        cases hp : p j
        · rfl
        · simp [hp] at h
      · exact ih hf j (by omega)
theorem findN_nil {N n : Nat} {zs : List Int} (h : (findN N n zs).length = 0) : ∀ j, j < N → okC n zs j = false := by
  unfold findN at h
  cases hf : first (okC n zs) N with
  | some x => rw [hf] at h; simp [dec] at h
  | none => exact first_nil hf
theorem find_nil {n : Nat} {zs : List Int} (h : (findT n zs).length = 0) : ∀ j, j < 65536 → okC n zs j = false := findN_nil h
/-- Threshold tables are those without trades. -/
theorem thr_iff {n : Nat} {zs : List Int} (hk : tabB n zs = true) : (bs n zs (wts n) (wts n).length).2 = !(decide (0 < (findT n zs).length)) := by
  obtain ⟨m0, he, h4, hpw, h16, hrg⟩ := tab_nat hk
  obtain rfl : n = m0 := by omega
  rw [Bool.eq_iff_iff, bs_found]
  simp only [Bool.not_eq_true', decide_eq_false_iff_not]
  constructor
  · rintro ⟨j, hj, hp⟩ hlen
    have hmem : (wts n).getD j [] ∈ wts n := by rw [List.getD_eq_getElem?_getD, List.getElem?_eq_getElem hj]; exact List.getElem_mem hj
    have hl := (wts_row hmem).1
    have hsep := (parts_iff n zs _).1 hp
    generalize (wts n).getD j [] = ws at *
    have hno : findT n zs = [] := by
      refine find_none fun i hi => ?_
      cases hc : okC n zs i
      · rfl
      · exfalso
        have h5 := okC_in hc
        have h6 := tr_in h5.2
        have v1 := tab_at hk _ h5.1.1.1
        have v2 := tab_at hk _ h5.1.1.2
        have v3 := tab_at hk _ h5.1.2.1
        have v4 := tab_at hk _ h5.1.2.2
        have h7 := hsep _ h5.1.1.1 (by omega) _ h5.1.2.1 (by omega)
        have h8 := hsep _ h5.1.1.2 (by omega) _ h5.1.2.2 (by omega)
        have h9 := pr_sum hl h6.2.2
        omega
    rw [hno] at hlen
    simp at hlen
  · intro hlen
    have hno := find_nil (n := n) (zs := zs) (by omega)
    have hT : NoT (fun k => zs.getD k 0 == 1) (List.range (2 ^ n)) := by
      intro a ha b hb c hc d hd h1 h2 h3 h5 he
      simp only [beq_iff_eq, beq_eq_false_iff_ne] at h1 h2 h3 h5
      rw [List.mem_range] at ha hb hc hd
      have v3 := tab_at hk c (by omega)
      have v4 := tab_at hk d (by omega)
      have hmk : ∀ a b c d : Nat, a < 2 ^ n → b < 2 ^ n → c < 2 ^ n → d < 2 ^ n → zs.getD a 0 = 1 → zs.getD b 0 = 1 → zs.getD c 0 = 0 → zs.getD d 0 = 0 → enc a + enc b = enc c + enc d → a ≤ b → c ≤ d → False := by
        intro a b c d ha hb hc hd k1 k2 k3 k4 ke hab hcd
        have ht : trN n zs a b c d = true := by
          unfold trN
          rw [decide_eq_true hab, decide_eq_true hcd, k1, k2, k3, k4]
          show eqBits n a b c d = true
          refine eq_all fun i hi => ?_
          have e1 := enc_ds ⟨a, by omega⟩ ⟨b, by omega⟩ ⟨i, by omega⟩
          have e2 := enc_ds ⟨c, by omega⟩ ⟨d, by omega⟩ ⟨i, by omega⟩
          simp only at e1 e2
          rw [ke, e2] at e1
          unfold ds
          omega
        have := hno (code a b c d) (by unfold code; omega)
        rw [okC_at h16 (by omega) (by omega) (by omega) (by omega), ht] at this
        cases this
      rcases Nat.le_total a b with hab | hab <;> rcases Nat.le_total c d with hcd | hcd
      · exact hmk a b c d ha hb hc hd h1 h2 (by omega) (by omega) he hab hcd
      · exact hmk a b d c ha hb hd hc h1 h2 (by omega) (by omega) (by omega) hab hcd
      · exact hmk b a c d hb ha hc hd h2 h1 (by omega) (by omega) (by omega) hab hcd
      · exact hmk b a d c hb ha hd hc h2 h1 (by omega) (by omega) (by omega) hab hcd
    obtain ⟨c, b, hpl⟩ := plane_of h4 _ hT
    obtain ⟨j, hj, hje⟩ := List.getElem_of_mem (wOf_mem c n)
    refine ⟨j, hj, ?_⟩
    have e : (wts n).getD j [] = wOf c n := by rw [List.getD_eq_getElem?_getD, List.getElem?_eq_getElem hj]; exact hje
    rw [e, parts_iff]
    intro a ha h1 x hx h2
    rw [wOf_pr, wOf_pr]
    have k1 := (hpl a (List.mem_range.2 (by omega))).1 (by simp only [beq_iff_eq]; exact h1)
    have k2 := (hpl x (List.mem_range.2 (by omega))).2 (by simp only [beq_eq_false_iff_ne]; exact h2)
    omega
end Go.Proofs.Ytchlkcmgonbcjaa.thr
