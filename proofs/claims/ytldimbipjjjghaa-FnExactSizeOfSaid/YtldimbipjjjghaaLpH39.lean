/- Several texts in one. -/
import Derived.BigQuiet
import Derived.Test.YtldimbipjjjghaaLpH38
import Derived.Test.YtldimbipjjjghaaLpH19
namespace Go.Proofs.Ytldimbipjjjghaa.findc
open Go.RowKit own pp nums range tab pairw trade findp prs firstw plin
set_option linter.unusedVariables false
set_option linter.unusedSimpArgs false

/-- The places below L where p holds. -/
def plOf (p : Nat → Bool) (L : Nat) : List Pl := ((List.range L).filter p).map fun i => ⟨i % 16, Nat.mod_lt _ (by decide)⟩
theorem plOf_vals (p : Nat → Bool) {L : Nat} (h : L ≤ 16) : placesTo p L = vals (plOf p L) := by
  unfold placesTo vals plOf
  rw [List.map_map]
  apply List.map_congr_left
  intro i hi
  have := List.mem_range.1 (List.mem_filter.1 hi).1
  show (i : Int) = ((i % 16 : Nat) : Int)
  rw [Nat.mod_eq_of_lt (by omega)]
theorem plOf_mem {p : Nat → Bool} {L : Nat} (h : L ≤ 16) (x : Pl) : x ∈ plOf p L ↔ x.val < L ∧ p x.val = true := by
  unfold plOf
  rw [List.mem_map]
  constructor
  · rintro ⟨i, hi, rfl⟩
    have h1 := List.mem_filter.1 hi
    have h2 := List.mem_range.1 h1.1
    show i % 16 < L ∧ p (i % 16) = true
    rw [Nat.mod_eq_of_lt (by omega)]
    exact ⟨h2, h1.2⟩
  · rintro ⟨h1, h2⟩
    refine ⟨x.val, List.mem_filter.2 ⟨List.mem_range.2 h1, h2⟩, ?_⟩
    apply Fin.ext
    show x.val % 16 = x.val
    exact Nat.mod_eq_of_lt x.isLt
theorem plOf_len (p : Nat → Bool) {L : Nat} (h : L ≤ 16) : (plOf p L).length ≤ 16 := by
  unfold plOf
  rw [List.length_map]
  exact Nat.le_trans (List.length_filter_le _ _) (by simpa using h)
theorem plOf_sorted (p : Nat → Bool) {L : Nat} (h : L ≤ 16) : (plOf p L).Pairwise (fun a b => a.val < b.val) := by
  unfold plOf
  rw [List.pairwise_map]
  have h1 : ((List.range L).filter p).Pairwise (· < ·) := List.Pairwise.filter p List.pairwise_lt_range
  refine List.Pairwise.imp_of_mem ?_ h1
  intro a b ha hb hab
  have h2 := List.mem_range.1 (List.mem_filter.1 ha).1
  have h3 := List.mem_range.1 (List.mem_filter.1 hb).1
  show a % 16 < b % 16
  rw [Nat.mod_eq_of_lt (by omega), Nat.mod_eq_of_lt (by omega)]
  exact hab
/-- A pair as a number. -/
def c2 (p : Pl × Pl) : Nat := p.1.val * 16 + p.2.val
theorem prs_mem {xs : List Pl} (h : xs.Pairwise (fun a b => a.val < b.val)) (p : Pl × Pl) : p ∈ prs.prs xs ↔ p.1 ∈ xs ∧ p.2 ∈ xs ∧ p.1.val ≤ p.2.val := by
  induction xs with
  | nil => simp [prs.prs]
  | cons x t ih =>
    have h1 := List.pairwise_cons.1 h
    have ih := ih h1.2
    obtain ⟨a, b⟩ := p
    simp only [prs.prs, List.mem_append, List.mem_map, List.mem_cons, Prod.mk.injEq] at ih ⊢
    rw [ih]
    constructor
    · rintro (⟨y, hy, rfl, rfl⟩ | ⟨ha, hb, hab⟩)
      · refine ⟨.inl rfl, hy, ?_⟩
        rcases hy with rfl | hy
        · exact Nat.le_refl _
        · exact Nat.le_of_lt (h1.1 _ hy)
      · exact ⟨.inr ha, .inr hb, hab⟩
    · rintro ⟨ha | ha, hb, hab⟩
      · exact .inl ⟨b, hb, ha.symm, rfl⟩
      · rcases hb with rfl | hb
        · have := h1.1 _ ha
          omega
        · exact .inr ⟨ha, hb, hab⟩
theorem prs_sorted {xs : List Pl} (h : xs.Pairwise (fun a b => a.val < b.val)) : (prs.prs xs).Pairwise (fun p q => c2 p < c2 q) := by
  induction xs with
  | nil => simp [prs.prs]
  | cons x t ih =>
    have h1 := List.pairwise_cons.1 h
    show ((x :: t).map (fun y => (x, y)) ++ prs.prs t).Pairwise _
    rw [List.pairwise_append]
    refine ⟨?_, ih h1.2, ?_⟩
    · rw [List.pairwise_map]
      exact h.imp (fun {a b} hab => by unfold c2; show x.val * 16 + a.val < x.val * 16 + b.val; omega)
    · intro p hp q hq
      rw [List.mem_map] at hp
      obtain ⟨y, _, rfl⟩ := hp
      have h2 := h1.1 _ ((prs_mem h1.2 q).1 hq).1
      have h3 := y.isLt
      unfold c2
      show x.val * 16 + y.val < q.1.val * 16 + q.2.val
      omega
theorem prefix_mem {l pre : List (Pl × Pl)} {x y : Pl × Pl} (h : l.Pairwise (fun p q => c2 p < c2 q)) (hp : pre ++ [x] <+: l) (hy : y ∈ l) (hc : c2 y < c2 x) : y ∈ pre := by
  obtain ⟨rest, rfl⟩ := hp
  rw [List.append_assoc, List.mem_append] at hy
  rcases hy with hy | hy
  · exact hy
  · rw [List.append_assoc, List.pairwise_append] at h
    have h2 := h.2.1
    simp only [List.cons_append, List.nil_append, List.pairwise_cons] at h2
    simp only [List.cons_append, List.nil_append, List.mem_cons] at hy
    rcases hy with rfl | hy
    · omega
    · have := h2.1 _ hy
      omega
theorem c2_inj {p q : Pl × Pl} (h : c2 p = c2 q) : p = q := by
  obtain ⟨a, b⟩ := p
  obtain ⟨a', b'⟩ := q
  unfold c2 at h
  have h1 := a.isLt; have h2 := b.isLt; have h3 := a'.isLt; have h4 := b'.isLt
  have e1 : a.val = a'.val := by show _; simp only at h; omega
  have e2 : b.val = b'.val := by simp only at h; omega
  rw [Fin.ext e1, Fin.ext e2]
/-- The pairs of ones and of other places of a table. -/
def onesOf (zs : List Int) : List Pl := plOf (fun k => decide (0 < zs.getD k 0)) zs.length
def othOf (zs : List Int) : List Pl := plOf (fun k => zs.getD k 0 == 0) zs.length
theorem tr_iff {n : Nat} {zs : List Int} (hk : tabB n zs = true) {a b c d : Nat} (ha : a < zs.length) (hb : b < zs.length) (hc : c < zs.length) (hd : d < zs.length) (ha6 : a < 16) (hb6 : b < 16) (hc6 : c < 16) (hd6 : d < 16) :
    trN n zs a b c d = true ↔ ((⟨a, ha6⟩, ⟨b, hb6⟩) : Pl × Pl) ∈ prs.prs (onesOf zs) ∧ ((⟨c, hc6⟩, ⟨d, hd6⟩) : Pl × Pl) ∈ prs.prs (othOf zs) ∧ eqS (⟨a, ha6⟩, ⟨b, hb6⟩) (⟨c, hc6⟩, ⟨d, hd6⟩) = true := by
  obtain ⟨m0, he, h4, hpw, h16, hrg⟩ := tab_nat hk
  obtain rfl : n = m0 := by omega
  have va := tab_at hk a ha
  have vb := tab_at hk b hb
  have vc := tab_at hk c hc
  have vd := tab_at hk d hd
  have e4 : eqBits n a b c d = eqS (⟨a, ha6⟩, ⟨b, hb6⟩) (⟨c, hc6⟩, ⟨d, hd6⟩) := by
    rw [eq_four h4 (by omega) (by omega) (by omega) (by omega), istrade.eq4]; rfl
  unfold onesOf othOf
  rw [prs_mem (plOf_sorted _ h16), prs_mem (plOf_sorted _ h16), plOf_mem h16, plOf_mem h16, plOf_mem h16, plOf_mem h16, ← e4]
  unfold trN
  simp only [Bool.and_eq_true, decide_eq_true_eq, beq_iff_eq]
  constructor
  · rintro ⟨⟨h1, h2⟩, ⟨h3, h5⟩, h6⟩
    exact ⟨⟨⟨ha, by omega⟩, ⟨hb, by omega⟩, h1⟩, ⟨⟨hc, by omega⟩, ⟨hd, by omega⟩, h2⟩, h6⟩
  · rintro ⟨⟨⟨_, h1⟩, ⟨_, h2⟩, h3⟩, ⟨⟨_, h5⟩, ⟨_, h6⟩, h7⟩, h8⟩
    exact ⟨⟨h3, h7⟩, ⟨by omega, by omega⟩, h8⟩
theorem finds_is {n : Nat} {zs out : List Int} {ok : Bool} (hk : tabB n zs = true) (h : Finds (onesOf zs) (othOf zs) out ok) : out = findT n zs ∧ ok = decide (0 < (findT n zs).length) := by
  obtain ⟨m0, he, h4, hpw, h16, hrg⟩ := tab_nat hk
  have hs1 := prs_sorted (plOf_sorted (fun k => decide (0 < zs.getD k 0)) h16)
  have hs2 := prs_sorted (plOf_sorted (fun k => zs.getD k 0 == 0) h16)
  rcases h with ⟨rfl, pre, x, pre2, q, hp, hno, hp2, hno2, hyes, rfl⟩ | ⟨rfl, rfl, hno⟩
  · have hx : x ∈ prs.prs (onesOf zs) := hp.subset (by simp)
    have hq : q ∈ prs.prs (othOf zs) := hp2.subset (by simp)
    have m1 := (prs_mem (plOf_sorted (fun k => decide (0 < zs.getD k 0)) h16) x).1 hx
    have m2 := (prs_mem (plOf_sorted (fun k => zs.getD k 0 == 0) h16) q).1 hq
    have a1 := ((plOf_mem h16 _).1 m1.1).1
    have a2 := ((plOf_mem h16 _).1 m1.2.1).1
    have a3 := ((plOf_mem h16 _).1 m2.1).1
    have a4 := ((plOf_mem h16 _).1 m2.2.1).1
    have ht : trN n zs x.1.val x.2.val q.1.val q.2.val = true := (tr_iff hk a1 a2 a3 a4 x.1.isLt x.2.isLt q.1.isLt q.2.isLt).2 ⟨hx, hq, hyes⟩
    have e : findT n zs = res x q := by
      refine find_hit h16 a1 a2 a3 a4 ht ?_
      intro j hj
      cases hc : okC n zs j
      · rfl
      · exfalso
        have h5 := okC_in hc
        have h6 := (tr_iff hk h5.1.1.1 h5.1.1.2 h5.1.2.1 h5.1.2.2 (by omega) (by omega) (by omega) (by omega)).1 h5.2
        have hx1 := x.1.isLt; have hx2 := x.2.isLt; have hq1 := q.1.isLt; have hq2 := q.2.isLt
        by_cases hlt : j / 4096 * 16 + j / 256 % 16 < c2 x
        · have := hno _ (prefix_mem hs1 hp h6.1 hlt) _ h6.2.1
          rw [h6.2.2] at this; cases this
        · have he1 : j / 4096 * 16 + j / 256 % 16 = c2 x := by unfold code at hj; unfold c2 at hlt ⊢; omega
          have he2 : ((⟨j / 4096, by omega⟩, ⟨j / 256 % 16, by omega⟩) : Pl × Pl) = x := c2_inj he1
          have hlt2 : j / 16 % 16 * 16 + j % 16 < c2 q := by unfold code at hj; unfold c2 at he1 ⊢; omega
          have := hno2 _ (prefix_mem hs2 hp2 h6.2.1 hlt2)
          rw [← he2, h6.2.2] at this; cases this
    rw [e]
    exact ⟨rfl, rfl⟩
  · have e : findT n zs = [] := by
      refine find_none fun j hj => ?_
      cases hc : okC n zs j
      · rfl
      · exfalso
        have h5 := okC_in hc
        have h6 := (tr_iff hk h5.1.1.1 h5.1.1.2 h5.1.2.1 h5.1.2.2 (by omega) (by omega) (by omega) (by omega)).1 h5.2
        have := hno _ h6.1 _ h6.2.1
        rw [h6.2.2] at this; cases this
    rw [e]
    exact ⟨rfl, rfl⟩
set_option maxRecDepth 100000 in
set_option maxHeartbeats 4000000 in
theorem first_trade (n : Nat) (a : Option Addr) (zs : List Int) (c : Nat) (w : World) (hr : ints.Reads .i64 w a zs) (hk : tab.tabB n zs = true) :
    Calls Try.prog 158 #[.slice a zs.length c] w (RetIB (findT n zs) (decide (0 < (findT n zs).length)) w) := by
  obtain ⟨m0, he, h4, hpw, h16, hrg⟩ := tab_nat hk
  refine (callsIn_wide.1 (first_in 6 (by omega) a zs c w hr h16 (onesOf zs) (othOf zs) (Lib.hid (plOf_len _ h16)) (Lib.hid (plOf_len _ h16)) (Lib.hid (plOf_vals _ h16)) (Lib.hid (plOf_vals _ h16)))).mono ?_
  rintro e w' ⟨v, out, ok, rfl, hov, hf, hb⟩
  obtain ⟨e1, e2⟩ := finds_is hk hf
  rw [e1] at hov
  rw [e2]
  exact ⟨v, rfl, hov, hb⟩
end Go.Proofs.Ytldimbipjjjghaa.findc
