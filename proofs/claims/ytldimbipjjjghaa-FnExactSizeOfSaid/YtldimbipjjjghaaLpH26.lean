/- Several texts in one. -/
import Derived.Test.YtldimbipjjjghaaLpH25
import Derived.Test.YtldimbipjjjghaaLpH14
import Derived.Test.YtldimbipjjjghaaLpH7
import Derived.Test.YtldimbipjjjghaaLpH0
import Derived.Test.YtldimbipjjjghaaLpH19
namespace Go.Proofs.Ytldimbipjjjghaa.sizei
open Go.RowKit own pp nums parts
set_option linter.unusedVariables false
set_option linter.unusedSimpArgs false

open mk (mk_length mk_succ mk_getD mk_congr fil fil_zero fil_all fil_succ fil_at)
def ab (ws : List Int) (k : Nat) : Int := max (ws.getD k 0) (-(ws.getD k 0))
set_option maxRecDepth 100000 in
set_option maxHeartbeats 4000000 in
theorem impl_signs (a : Option Addr) (ws : List Int) (c : Nat) (w : World) (hr : ints.Reads .i64 w a ws) (h4 : ws.length ≤ 4) (hW : W3 ws) :
    Calls Try.prog 159 #[.slice a ws.length c] w ((fun e w' => ∃ v, e = .returned v ∧ OwnI w.heap.size w'.heap.size w' v (mk.mk (ab ws) ws.length) ∧ Below w.heap.size w w')) := by
  obtain ⟨i0, hi, hz0, hz1, hz2⟩ := info_parts mk.infoInt
  have HR := Lib.hid hr
  have HW := Lib.hid hW
  clear hr hW
  go_enter Try.func159, Try.ntmps159
  have j0 : (0 : Int) ≤ (ws.length : Int) := by omega
  have j1 : (ws.length : Int) ≤ 4 := by omega
  go_wp2_with (refine wpList_make_full _ rfl _ _ 23 rfl w.heap.size 3 i0 (.int .i64 0) 1 Try.underlying23 hi hz0 hz1 .i64 .i64 _ _ ws.length rfl rfl rfl rfl (by rw [hz2]; omega) (by unfold maxLen; omega) (Nat.le_refl _) ?_; intro w1 hown1 hgrow1; refine Hid.out ?_)
  refine Lib.hid ?_
  have HB1 := Lib.hid (show Below w.heap.size w w1 from (Below.refl _ _).grown hgrow1 (Nat.le_refl _) (by simp))
  rw [show (Value.int .i64 0).cells = #[Value.int .i64 0] from rfl, Nat.mul_one, toList_madeCells_one, ← fil_zero (ab ws)] at hown1
  have HO1 := Lib.hid hown1
  clear hgrow1 hown1
  go_wp2_with fail
  go_loopw [11] (fun i wr => ∃ k : Nat, k ≤ ws.length ∧ i = .int .i64 k ∧ wr.ownsRow w.heap.size 3 1 (.slice (some ⟨w.heap.size, 0, none⟩) ws.length ws.length) ws.length (fil (ab ws) ws.length k) ∧ Below w.heap.size w wr) (fun i _ => ws.length - (intOf i).toNat)
  case atStart => exact ⟨0, Nat.zero_le _, rfl, HO1.out, HB1.out⟩
  case round =>
    obtain ⟨k, hk, rfl, hown, hbel⟩ := hrel
    clear HO1 HB1
    have HB := Lib.hid hbel
    clear hbel
    by_cases hlt : k < ws.length
    · obtain ⟨b, off, hab, hb, hc⟩ := (HR.out.below HB.out).at hlt
      subst hab
      have hz := HW.out k hlt
      have hcell : wr.cell? ⟨w.heap.size, k, none⟩ = some (.int .i64 0) := by rw [hown.cellAt k (by omega), fil_at _ _ k hlt]
      have hfro := hown.frozenAt k
      have hst := hown.stored k (.int .i64 (ab ws k))
      rw [fil_succ (ab ws) _ k hlt] at hst
      have HS := Lib.hid (show (wr.setCell ⟨w.heap.size, k, none⟩ (.int .i64 (max (ws.getD k 0) (-(ws.getD k 0))))).ownsRow w.heap.size 3 1 (.slice (some ⟨w.heap.size, 0, none⟩) ws.length ws.length) ws.length (fil (ab ws) ws.length (k + 1)) from hst.1)
      have i1 : (0 : Int) ≤ (k : Int) := by omega
      have i2 : (k : Int) < (ws.length : Int) := by omega
      clear hst hown
      generalize ws.getD k 0 = z at *
      go_wp2_with fail
      go_roundw
      case rel => exact ⟨k + 1, by omega, by go_num, HS.out, HB.out.setCell (Nat.le_refl _) _⟩
      case measure => simp [intOf]; omega
    · obtain rfl : k = ws.length := by omega
      rw [fil_all] at hown
      have HO := Lib.hid hown
      clear hown
      go_wp2_with fail
      go_ret
      exact ⟨_, rfl, OwnI.of (by rw [mk_length]; exact HO.out), HB.out⟩
set_option maxRecDepth 100000 in
set_option maxHeartbeats 4000000 in
theorem impl_size (a : Option Addr) (ws : List Int) (c : Nat) (w : World) (hr : ints.Reads .i64 w a ws) (h4 : ws.length ≤ 4) (hW : W3 ws) :
    Calls Try.prog 113 #[.slice a ws.length c] w ((fun e w' => e = .returned (.int .i64 (size ws)) ∧ Below w.heap.size w w')) := by
  have HW := Lib.hid hW
  have HC := Lib.hid (impl_signs a ws c w hr h4 hW)
  clear hr hW
  go_enter Try.func113, Try.ntmps113
  go_wp2_with fail
  refine HC.out.mono ?_
  rintro e w1 ⟨v, rfl, ho, hb⟩
  obtain ⟨p, q, rfl, hrd, _, _⟩ := ho.slice
  rw [mk_length]
  have HR := Lib.hid hrd
  have HB := Lib.hid hb
  have HG := Lib.hid (fun k (h : k < ws.length) => mk_getD (ab ws) ws.length k h)
  have HL := Lib.hid (mk_length (ab ws) ws.length)
  clear HC ho hrd hb
  generalize mk.mk (ab ws) ws.length = xs at *
  go_wp2_with fail
  go_loopw [3, 9] (fun s i wr => ∃ k : Nat, k ≤ ws.length ∧ i = .int .i64 k ∧ s = .int .i64 (szTo ws k) ∧ wr = w1) (fun _ i _ => ws.length - (intOf i).toNat)
  case atStart => exact ⟨0, Nat.zero_le _, rfl, rfl, rfl⟩
  case round =>
    obtain ⟨k, hk, rfl, rfl, rfl⟩ := hrel
    by_cases hlt : k < ws.length
    · obtain ⟨b, off, rfl, hb, hc⟩ := HR.out.at (k := k) (by rw [HL.out]; exact hlt)
      rw [HG.out k hlt] at hc
      have hz := HW.out k hlt
      have hs := sz_bd HW.out k hk
      have HS := Lib.hid (show szTo ws (k + 1) = szTo ws k + ab ws k from rfl)
      have hmx : 0 ≤ ab ws k ∧ ab ws k ≤ 3 := by unfold ab; omega
      have i1 : (0 : Int) ≤ (k : Int) := by omega
      have i2 : (k : Int) < (ws.length : Int) := by omega
      generalize szTo ws k = s at *
      generalize ab ws k = y at *
      go_wp2_with fail
      go_roundw
      case rel => exact ⟨k + 1, by omega, by go_num, by rw [HS.out], trivial⟩
      case measure => simp [intOf]; omega
    · obtain rfl : k = ws.length := by omega
      go_wp2_with fail
      go_ret
      exact ⟨rfl, HB.out⟩
end Go.Proofs.Ytldimbipjjjghaa.sizei

namespace Go.Proofs.Ytldimbipjjjghaa.thr
open Go.RowKit own pp nums range tab bitw pairw trade findp parts wts least5
set_option linter.unusedVariables false
set_option linter.unusedSimpArgs false

open thrc (enc val NoT Pl plane_of enc_ds)
/-- Where the weights part ones from other places. -/
theorem st_inv (n : Nat) (zs ws : List Int) (k : Nat) :
    (∀ a, a < k → zs.getD a 0 = 1 → 0 < (st n zs ws k).o ∧ (st n zs ws k).l ≤ pr ws n a) ∧ (0 < (st n zs ws k).o → ∃ a, a < k ∧ zs.getD a 0 = 1 ∧ (st n zs ws k).l = pr ws n a) ∧
    (∀ a, a < k → zs.getD a 0 ≠ 1 → 0 < (st n zs ws k).x ∧ pr ws n a ≤ (st n zs ws k).m) ∧ (0 < (st n zs ws k).x → ∃ a, a < k ∧ zs.getD a 0 ≠ 1 ∧ (st n zs ws k).m = pr ws n a) := by
  induction k with
  | zero => exact ⟨fun a h => by omega, fun h => by simp [st] at h, fun a h => by omega, fun h => by simp [st] at h⟩
  | succ k ih =>
    obtain ⟨i1, i2, i3, i4⟩ := ih
    by_cases hz : zs.getD k 0 = 1
    · rw [st_one hz]
      generalize st n zs ws k = s at *
      refine ⟨fun a ha h1 => ⟨by show 0 < s.o + 1; omega, ?_⟩, fun _ => ?_, fun a ha h1 => ?_, fun h => ?_⟩
      · show (if s.o = 0 ∨ pr ws n k < s.l then pr ws n k else s.l) ≤ pr ws n a
        by_cases e : a = k
        · subst e
          split <;> omega
        · have := i1 a (by omega) h1
          split <;> omega
      · show ∃ a, a < k + 1 ∧ zs.getD a 0 = 1 ∧ (if s.o = 0 ∨ pr ws n k < s.l then pr ws n k else s.l) = pr ws n a
        by_cases e : s.o = 0 ∨ pr ws n k < s.l
        · exact ⟨k, by omega, hz, by rw [if_pos e]⟩
        · obtain ⟨a, ha, h1, h2⟩ := i2 (by omega)
          exact ⟨a, by omega, h1, by rw [if_neg e]; exact h2⟩
      · have e : a ≠ k := fun e => h1 (by rw [e]; exact hz)
        exact i3 a (by omega) h1
      · obtain ⟨a, ha, h1, h2⟩ := i4 h
        exact ⟨a, by omega, h1, h2⟩
    · rw [st_other hz]
      generalize st n zs ws k = s at *
      refine ⟨fun a ha h1 => ?_, fun h => ?_, fun a ha h1 => ⟨by show 0 < s.x + 1; omega, ?_⟩, fun _ => ?_⟩
      · have e : a ≠ k := fun e => hz (by rw [← e]; exact h1)
        exact i1 a (by omega) h1
      · obtain ⟨a, ha, h1, h2⟩ := i2 h
        exact ⟨a, by omega, h1, h2⟩
      · show pr ws n a ≤ (if s.x = 0 ∨ s.m < pr ws n k then pr ws n k else s.m)
        by_cases e : a = k
        · subst e
          split <;> omega
        · have := i3 a (by omega) h1
          split <;> omega
      · show ∃ a, a < k + 1 ∧ zs.getD a 0 ≠ 1 ∧ (if s.x = 0 ∨ s.m < pr ws n k then pr ws n k else s.m) = pr ws n a
        by_cases e : s.x = 0 ∨ s.m < pr ws n k
        · exact ⟨k, by omega, hz, by rw [if_pos e]⟩
        · obtain ⟨a, ha, h1, h2⟩ := i4 (by omega)
          exact ⟨a, by omega, h1, by rw [if_neg e]; exact h2⟩
theorem parts_iff (n : Nat) (zs ws : List Int) : partsB n zs ws = true ↔ ∀ a, a < zs.length → zs.getD a 0 = 1 → ∀ c, c < zs.length → zs.getD c 0 ≠ 1 → pr ws n c < pr ws n a := by
  obtain ⟨i1, i2, i3, i4⟩ := st_inv n zs ws zs.length
  unfold partsB
  generalize st n zs ws zs.length = s at *
  simp only [Bool.or_eq_true, decide_eq_true_eq]
  constructor
  · intro h a ha h1 c hc h2
    have k1 := i1 a ha h1
    have k2 := i3 c hc h2
    rcases h with (h | h) | h <;> omega
  · intro h
    by_cases e1 : s.o = 0
    · exact .inl (.inl e1)
    · by_cases e2 : s.x = 0
      · exact .inl (.inr e2)
      · obtain ⟨a, ha, h1, h2⟩ := i2 (by omega)
        obtain ⟨c, hc, h3, h5⟩ := i4 (by omega)
        have := h a ha h1 c hc h3
        right
        omega
theorem bits_getD (k n i : Nat) (h : i < n) : (bitsTo k n).getD i 0 = ((k / 2 ^ i % 2 : Nat) : Int) := by
  simp [bitsTo, List.getD_eq_getElem?_getD, h]
theorem pr_sum {n a b c d : Nat} {ws : List Int} (hl : ws.length = n) (h : eqBits n a b c d = true) : pr ws n a + pr ws n b = pr ws n c + pr ws n d := by
  unfold pr dot
  rw [hl]
  have key : ∀ j, j ≤ n → dotTo ws (bitsTo a n) j + dotTo ws (bitsTo b n) j = dotTo ws (bitsTo c n) j + dotTo ws (bitsTo d n) j := by
    intro j
    induction j with
    | zero => intro _; simp [dotTo_zero]
    | succ j ih =>
      intro hj
      have h1 := ih (by omega)
      have h2 := eq_at h j (by omega)
      unfold ds at h2
      rw [dotTo_succ, dotTo_succ, dotTo_succ, dotTo_succ, bits_getD a n j (by omega), bits_getD b n j (by omega), bits_getD c n j (by omega), bits_getD d n j (by omega)]
      have h3 : ws.getD j 0 * ((a / 2 ^ j % 2 : Nat) : Int) + ws.getD j 0 * ((b / 2 ^ j % 2 : Nat) : Int) = ws.getD j 0 * ((c / 2 ^ j % 2 : Nat) : Int) + ws.getD j 0 * ((d / 2 ^ j % 2 : Nat) : Int) := by
        rw [← Int.mul_add, ← Int.mul_add, h2]
      omega
  exact key n (Nat.le_refl n)
/-- The weights of a number. -/
def wOf (c n : Nat) : List Int := (List.range n).map fun i => ((c / 7 ^ i % 7 : Nat) : Int) - 3
theorem wOf_length (c n : Nat) : (wOf c n).length = n := by simp [wOf]
theorem wOf_getD (c n i : Nat) (h : i < n) : (wOf c n).getD i 0 = ((c / 7 ^ i % 7 : Nat) : Int) - 3 := by simp [wOf, List.getD_eq_getElem?_getD, h]
theorem wOf_pr (c n k : Nat) : pr (wOf c n) n k = ((val c k n : Nat) : Int) - 3 * n := by
  unfold pr dot
  rw [wOf_length]
  have key : ∀ j, j ≤ n → dotTo (wOf c n) (bitsTo k n) j = ((val c k j : Nat) : Int) - 3 * j := by
    intro j
    induction j with
    | zero => intro _; simp [dotTo_zero, val]
    | succ j ih =>
      intro hj
      rw [dotTo_succ, ih (by omega), wOf_getD c n j (by omega), bits_getD k n j (by omega)]
      have h2 : k / 2 ^ j % 2 = 0 ∨ k / 2 ^ j % 2 = 1 := by omega
      rcases h2 with e | e
      · rw [val, e, if_neg (by decide)]; push_cast; omega
      · rw [val, e, if_pos (by decide)]; push_cast; omega
  exact key n (Nat.le_refl n)
theorem wOf_succ (c n : Nat) : wOf c (n + 1) = wOf c n ++ [((c / 7 ^ n % 7 : Nat) : Int) - 3] := by simp [wOf, List.range_succ]
theorem wOf_mem (c n : Nat) : wOf c n ∈ wts n := by
  induction n with
  | zero => simp [wOf, wts]
  | succ n ih =>
    rw [wOf_succ]
    show _ ∈ stepW (wts n)
    unfold stepW
    rw [List.mem_flatMap]
    refine ⟨wOf c n, ih, ?_⟩
    unfold ext
    rw [List.mem_map]
    exact ⟨c / 7 ^ n % 7, List.mem_range.2 (Nat.mod_lt _ (by decide)), rfl⟩
theorem first_nil {p : Nat → Bool} {N : Nat} (h : first p N = none) : ∀ j, j < N → p j = false := by
  induction N with
  | zero => intro j hj; omega
  | succ N ih =>
    rw [first] at h
    cases hf : first p N with
    | some x => rw [hf] at h; cases h
    | none =>
      rw [hf] at h
      intro j hj
      by_cases e : j = N
      · subst e
        cases hp : p j
        · rfl
        · simp [hp] at h
      · exact ih hf j (by omega)
theorem findN_nil {N n : Nat} {zs : List Int} (h : (findN N n zs).length = 0) : ∀ j, j < N → okC n zs j = false := by
  unfold findN at h
  cases hf : first (okC n zs) N with
  | some x => rw [hf] at h; simp [dec] at h
  | none => exact first_nil hf
theorem find_nil {n : Nat} {zs : List Int} (h : (findT n zs).length = 0) : ∀ j, j < 65536 → okC n zs j = false := findN_nil h
/-- Threshold tables are those without trades. -/
theorem thr_iff {n : Nat} {zs : List Int} (hk : tabB n zs = true) : (bs n zs (wts n) (wts n).length).2 = !(decide (0 < (findT n zs).length)) := by
  obtain ⟨m0, he, h4, hpw, h16, hrg⟩ := tab_nat hk
  obtain rfl : n = m0 := by omega
  rw [Bool.eq_iff_iff, bs_found]
  simp only [Bool.not_eq_true', decide_eq_false_iff_not]
  constructor
  · rintro ⟨j, hj, hp⟩ hlen
    have hmem : (wts n).getD j [] ∈ wts n := by rw [List.getD_eq_getElem?_getD, List.getElem?_eq_getElem hj]; exact List.getElem_mem hj
    have hl := (wts_row hmem).1
    have hsep := (parts_iff n zs _).1 hp
    generalize (wts n).getD j [] = ws at *
    have hno : findT n zs = [] := by
      refine find_none fun i hi => ?_
      cases hc : okC n zs i
      · rfl
      · exfalso
        have h5 := okC_in hc
        have h6 := tr_in h5.2
        have v1 := tab_at hk _ h5.1.1.1
        have v2 := tab_at hk _ h5.1.1.2
        have v3 := tab_at hk _ h5.1.2.1
        have v4 := tab_at hk _ h5.1.2.2
        have h7 := hsep _ h5.1.1.1 (by omega) _ h5.1.2.1 (by omega)
        have h8 := hsep _ h5.1.1.2 (by omega) _ h5.1.2.2 (by omega)
        have h9 := pr_sum hl h6.2.2
        omega
    rw [hno] at hlen
    simp at hlen
  · intro hlen
    have hno := find_nil (n := n) (zs := zs) (by omega)
    have hT : NoT (fun k => zs.getD k 0 == 1) (List.range (2 ^ n)) := by
      intro a ha b hb c hc d hd h1 h2 h3 h5 he
      simp only [beq_iff_eq, beq_eq_false_iff_ne] at h1 h2 h3 h5
      rw [List.mem_range] at ha hb hc hd
      have v3 := tab_at hk c (by omega)
      have v4 := tab_at hk d (by omega)
      have hmk : ∀ a b c d : Nat, a < 2 ^ n → b < 2 ^ n → c < 2 ^ n → d < 2 ^ n → zs.getD a 0 = 1 → zs.getD b 0 = 1 → zs.getD c 0 = 0 → zs.getD d 0 = 0 → enc a + enc b = enc c + enc d → a ≤ b → c ≤ d → False := by
        intro a b c d ha hb hc hd k1 k2 k3 k4 ke hab hcd
        have ht : trN n zs a b c d = true := by
          unfold trN
          rw [decide_eq_true hab, decide_eq_true hcd, k1, k2, k3, k4]
          show eqBits n a b c d = true
          refine eq_all fun i hi => ?_
          have e1 := enc_ds ⟨a, by omega⟩ ⟨b, by omega⟩ ⟨i, by omega⟩
          have e2 := enc_ds ⟨c, by omega⟩ ⟨d, by omega⟩ ⟨i, by omega⟩
          simp only at e1 e2
          rw [ke, e2] at e1
          unfold ds
          omega
        have := hno (code a b c d) (by unfold code; omega)
        rw [okC_at h16 (by omega) (by omega) (by omega) (by omega), ht] at this
        cases this
      rcases Nat.le_total a b with hab | hab <;> rcases Nat.le_total c d with hcd | hcd
      · exact hmk a b c d ha hb hc hd h1 h2 (by omega) (by omega) he hab hcd
      · exact hmk a b d c ha hb hd hc h1 h2 (by omega) (by omega) (by omega) hab hcd
      · exact hmk b a c d hb ha hc hd h2 h1 (by omega) (by omega) (by omega) hab hcd
      · exact hmk b a d c hb ha hd hc h2 h1 (by omega) (by omega) (by omega) hab hcd
    obtain ⟨c, b, hpl⟩ := plane_of h4 _ hT
    obtain ⟨j, hj, hje⟩ := List.getElem_of_mem (wOf_mem c n)
    refine ⟨j, hj, ?_⟩
    have e : (wts n).getD j [] = wOf c n := by rw [List.getD_eq_getElem?_getD, List.getElem?_eq_getElem hj]; exact hje
    rw [e, parts_iff]
    intro a ha h1 x hx h2
    rw [wOf_pr, wOf_pr]
    have k1 := (hpl a (List.mem_range.2 (by omega))).1 (by simp only [beq_iff_eq]; exact h1)
    have k2 := (hpl x (List.mem_range.2 (by omega))).2 (by simp only [beq_eq_false_iff_ne]; exact h2)
    omega
end Go.Proofs.Ytldimbipjjjghaa.thr
