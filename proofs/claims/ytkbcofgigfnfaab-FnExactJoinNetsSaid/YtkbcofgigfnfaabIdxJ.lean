/- The walks of the library's search in a list of planes, with a function that may make memory. -/
import Derived.Test.YtkbcofgigfnfaabPlanesL
import Derived.Outline
import Derived.Shelf.Abstract
namespace Go.Proofs.Ytkbcofgigfnfaab.idxj
open Go.RowKit own
set_option linter.unusedVariables false
set_option linter.unusedSimpArgs false

/-- The first place at which p holds, or -1. -/
def fstI (p : Nat → Bool) (n : Nat) : Int := match (List.range n).find? p with
  | some k => (k : Int)
  | none => -1
theorem fst_none {p : Nat → Bool} {n : Nat} (h : ∀ j, j < n → p j = false) : fstI p n = -1 := by
  unfold fstI
  rw [List.find?_eq_none.2 (fun x hx => by rw [h x (List.mem_range.1 hx)]; simp)]
theorem fst_some {p : Nat → Bool} {n k : Nat} (hk : k < n) (h : p k = true) (h2 : ∀ j, j < k → p j = false) : fstI p n = (k : Int) := by
  unfold fstI
  have e : (List.range n).find? p = some k := by
    rw [List.find?_range_eq_some]
    exact ⟨h, List.mem_range.2 hk, fun j hj => by rw [h2 j hj]; rfl⟩
  rw [e]
theorem fst_cases (p : Nat → Bool) (n : Nat) : (fstI p n = -1 ∧ ∀ j, j < n → p j = false) ∨ ∃ k, k < n ∧ fstI p n = (k : Int) ∧ p k = true ∧ ∀ j, j < k → p j = false := by
  cases hf : (List.range n).find? p with
  | none =>
    refine .inl ⟨by unfold fstI; rw [hf], fun j hj => ?_⟩
    have := List.find?_eq_none.1 hf j (List.mem_range.2 hj)
    simpa using this
  | some k =>
    obtain ⟨h1, h2, h3⟩ := List.find?_range_eq_some.1 hf
    exact .inr ⟨k, List.mem_range.1 h2, by unfold fstI; rw [hf], h1, fun j hj => by simpa using h3 j hj⟩
theorem fst_any (p : Nat → Bool) (n : Nat) : decide (0 ≤ fstI p n) = (List.range n).any p := by
  rcases fst_cases p n with ⟨h1, h2⟩ | ⟨k, hk, h1, h2, _⟩
  · rw [h1]
    have : (List.range n).any p = false := by
      rw [List.any_eq_false]
      intro j hj
      rw [h2 j (List.mem_range.1 hj)]; simp
    rw [this]; rfl
  · rw [h1]
    have : (List.range n).any p = true := List.any_eq_true.2 ⟨k, List.mem_range.2 hk, h2⟩
    rw [this]
    exact decide_eq_true (by omega)
set_option maxRecDepth 100000 in
set_option maxHeartbeats 2000000 in
theorem idxP (fn : Nat) (he : Enters Try.prog fn) (c1 : Value) (a : Option Addr) (ps : List (List Int × Int)) (c : Nat) (p : Nat → Bool) (w : World) (hn : ps.length ≤ 1048576) (HH : Hid (ReadsJ w a ps))
    (HC : Hid (∀ (k : Nat) (wr : World) (q : Option Addr) (d : Nat), k < ps.length → Below w.heap.size w wr → ints.Reads .i64 wr q (ps.getD k ([], 0)).1 → Calls Try.prog fn #[.agg #[.slice q (ps.getD k ([], 0)).1.length d, .int .i64 (ps.getD k ([], 0)).2], c1] wr fun e w' => e = .returned (.bool (p k)) ∧ Below wr.heap.size wr w')) :
    Calls Try.prog 224 #[.slice a ps.length c, .func (.func fn) #[] #[c1]] w (fun e w' => e = .returned (.int .i64 (fstI p ps.length)) ∧ Below w.heap.size w w') := by
  unfold Enters at he
  obtain ⟨n, hn9⟩ : ∃ n, ps.length = n := ⟨_, rfl⟩
  obtain ⟨r, hr⟩ : ∃ r, fstI p n = r := ⟨_, rfl⟩
  have HR1 := Lib.hid (show ∀ k, k < n → p k = true → (∀ j, j < k → p j = false) → r = (k : Int) from fun k hk h h2 => by rw [← hr]; exact fst_some hk h h2)
  have HR2 := Lib.hid (show (∀ j, j < n → p j = false) → r = -1 from fun h => by rw [← hr]; exact fst_none h)
  have HN := Lib.hid hn9
  rw [hn9] at hn
  rw [hn9, hr]
  clear hr hn9
  go_enter Try.func224, Try.ntmps224
  go_wp2_with fail
  go_loopw [8] (fun i wr => ∃ k : Nat, k ≤ n ∧ i = .int .i64 k ∧ Hid (∀ j, j < k → p j = false) ∧ Below w.heap.size w wr) (fun i _ => n - (intOf i).toNat)
  case atStart => exact ⟨0, Nat.zero_le _, rfl, fun j hj => by omega, Below.refl _ _⟩
  case round =>
    obtain ⟨k, hk, rfl, hj, hbel⟩ := hrel
    by_cases hlt : k < n
    · obtain ⟨b, off, q, d, rfl, hb, hc0, hd0, hqd, hrow⟩ := (HH.out.below hbel).at (k := k) (by rw [HN.out]; exact hlt)
      have HF := Lib.hid (HC.out k wr q d (by rw [HN.out]; exact hlt) hbel hrow)
      have HBl := Lib.hid hbel
      have hsz := hbel.size
      have i1 : (0 : Int) ≤ (k : Int) := by omega
      have i2 : (k : Int) < (n : Int) := by omega
      clear hbel hqd hrow
      cases hp : p k
      · have HJ := Lib.hid (show ∀ j, j < k + 1 → p j = false from fun j h => by
          by_cases e : j = k
          · rw [e]; exact hp
          · exact hj.out j (by omega))
        rw [hp] at HF
        clear hp hj
        generalize (ps.getD k ([], 0)).1 = ws at *
        generalize (ps.getD k ([], 0)).2 = b9 at *
        go_wp2_with fail
        refine HF.out.mono ?_
        rintro e wq ⟨rfl, hbq⟩
        have HBq := Lib.hid (HBl.out.trans (hbq.mono hsz))
        clear hbq
        go_wp2_with fail
        go_roundw
        case rel => exact ⟨k + 1, by omega, by go_num, HJ, HBq.out⟩
        case measure => simp [intOf]; omega
      · obtain rfl : r = (k : Int) := HR1.out k hlt hp hj.out
        rw [hp] at HF
        clear hp hj HR1 HR2
        generalize (ps.getD k ([], 0)).1 = ws at *
        generalize (ps.getD k ([], 0)).2 = b9 at *
        go_wp2_with fail
        refine HF.out.mono ?_
        rintro e wq ⟨rfl, hbq⟩
        have HBq := Lib.hid (HBl.out.trans (hbq.mono hsz))
        clear hbq
        go_wp2_with fail
        go_ret
        exact ⟨rfl, HBq.out⟩
    · obtain rfl : k = n := by omega
      obtain rfl : r = -1 := HR2.out hj.out
      have HBl := Lib.hid hbel
      clear hj hbel HR1 HR2
      go_wp2_with fail
      go_ret
      exact ⟨rfl, HBl.out⟩
set_option maxHeartbeats 1000000 in
theorem hasP (fn : Nat) (he : Enters Try.prog fn) (c1 : Value) (a : Option Addr) (ps : List (List Int × Int)) (c : Nat) (p : Nat → Bool) (w : World) (hn : ps.length ≤ 1048576) (HH : Hid (ReadsJ w a ps))
    (HC : Hid (∀ (k : Nat) (wr : World) (q : Option Addr) (d : Nat), k < ps.length → Below w.heap.size w wr → ints.Reads .i64 wr q (ps.getD k ([], 0)).1 → Calls Try.prog fn #[.agg #[.slice q (ps.getD k ([], 0)).1.length d, .int .i64 (ps.getD k ([], 0)).2], c1] wr fun e w' => e = .returned (.bool (p k)) ∧ Below wr.heap.size wr w')) :
    Calls Try.prog 202 #[.slice a ps.length c, .func (.func fn) #[] #[c1]] w (fun e w' => e = .returned (.bool ((List.range ps.length).any p)) ∧ Below w.heap.size w w') := by
  have HI := Lib.hid (idxP fn he c1 a ps c p w hn HH HC)
  rw [← fst_any]
  generalize fstI p ps.length = r at *
  clear HH HC
  go_enter Try.func202, Try.ntmps202
  go_wp2_with fail
  refine HI.out.mono ?_
  rintro e w' ⟨rfl, hb⟩
  have HB := Lib.hid hb
  clear hb
  go_wp2_with fail
  go_ret
  exact ⟨rfl, HB.out⟩
end Go.Proofs.Ytkbcofgigfnfaab.idxj
