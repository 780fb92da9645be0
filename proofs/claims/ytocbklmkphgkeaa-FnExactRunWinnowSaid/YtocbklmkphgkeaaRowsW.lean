/- The walks of the tests of rows of one length: the model's and the program's. -/
import Derived.Test.YtocbklmkphgkeaaRange
import Derived.Test.YtocbklmkphgkeaaWinBound
import Derived.Test.YtocbklmkphgkeaaGrid
namespace Go.Proofs.Ytocbklmkphgkeaa.rowsw
open Go.RowKit own pp nums range winbound
set_option linter.unusedVariables false
set_option linter.unusedSimpArgs false

/-- At most 40 rows of n numbers. -/
def rowsAll (n : Int) (rows : List (List Int)) : Bool := rows.all (rowsB' n)
def allB (n : Int) (rows : List (List Int)) : Bool := (rowsAll n rows && (decide (1 ≤ n) && decide (n ≤ 8))) && decide ((rows.length : Int) ≤ 40)

set_option maxHeartbeats 1000000 in
theorem spec_rows (n : Int) (a : Option Addr) (rows : List (List Int)) (c : Nat) (w : World) (hr : grid.Reads w a rows) (hn : rows.length ≤ 1048576) (hm : ∀ r ∈ rows, r.length ≤ 1048576) (ok : Bool) (h : Hid (allB n rows = ok)) :
    Calls Try.prog 121 #[.int .i64 n, .slice a rows.length c] w (Says ok w) := by
  have HMM := Lib.hid hm
  clear hm
  go_enter Try.func121, Try.ntmps121
  go_wp2_with fail
  go_loop [5] (fun i => ∃ k : Nat, k ≤ rows.length ∧ i = .int .i64 k ∧ Hid (∀ j, j < k → rowsB' n (rows.getD j []) = true)) (fun i => rows.length - (intOf i).toNat)
  case atStart => exact ⟨0, Nat.zero_le _, rfl, fun j hj => by omega⟩
  case round =>
    obtain ⟨k, hk, rfl, hj⟩ := hrel
    by_cases hlt : k < rows.length
    · obtain ⟨b, off, p, c', rfl, hb, hc, hpc, hrow⟩ := hr.at hlt
      have hml := HMM.out _ (getD_mem rows [] k hlt)
      cases hx : rowsB' n (rows.getD k [])
      · have e : ok = false := by rw [← h.out]; unfold allB rowsAll; rw [all_false _ [] rows k hlt hx, Bool.false_and, Bool.false_and]
        have HX := Lib.hid hx
        have HR := Lib.hid hrow
        clear h hx hrow hj
        subst e
        generalize hs : rows.getD k [] = s at *
        clear hs
        go_wp2_with fail
        refine (spec_row n p s c' _ HR.out hml false HX).mono ?_
        rintro e w' ⟨rfl, rfl⟩
        go_wp2_with fail
        go_ret
        exact ⟨rfl, rfl⟩
      · have HJ : Hid (∀ j, j < k + 1 → rowsB' n (rows.getD j []) = true) := fun j h => by
          by_cases e : j = k
          · rw [e]; exact hx
          · exact hj.out j (by omega)
        have HX := Lib.hid hx
        have HR := Lib.hid hrow
        clear hx hj hrow
        generalize hs : rows.getD k [] = s at *
        clear hs
        go_wp2_with fail
        refine (spec_row n p s c' _ HR.out hml true HX).mono ?_
        rintro e w' ⟨rfl, rfl⟩
        go_wp2_with fail
        go_round
        case rel => exact ⟨k + 1, by omega, by go_num, HJ⟩
        case measure => simp [intOf]; omega
    · have hkk : k = rows.length := by omega
      have e : ((decide (1 ≤ n) && decide (n ≤ 8)) && decide ((rows.length : Int) ≤ 40)) = ok := by
        rw [← h.out]; unfold allB rowsAll; rw [all_true _ [] rows (fun j hj' => hj.out j (by omega)), Bool.true_and]
      clear h hj
      subst hkk
      cases h1 : (decide (1 ≤ n) && decide (n ≤ 8))
      · have e2 : ok = false := by rw [← e, h1, Bool.false_and]
        have H1 := Lib.hid h1
        clear e h1
        subst e2
        go_wp2_with fail
        refine (in_any _ _ _ _ false H1).mono ?_
        rintro e w' ⟨rfl, rfl⟩
        go_wp2_with fail
        go_ret
        exact ⟨rfl, rfl⟩
      · have e2 : decide ((rows.length : Int) ≤ 40) = ok := by rw [← e, h1, Bool.true_and]
        have H1 := Lib.hid h1
        clear e h1
        go_wp2_with fail
        refine (in_any _ _ _ _ true H1).mono ?_
        rintro e w' ⟨rfl, rfl⟩
        go_wp2_with fail
        go_ret
        exact ⟨rfl, rfl⟩
theorem row_at (n : Int) (b : Nat) (w : World) (hc : w.cell? ⟨b, 0, none⟩ = some (.int .i64 n)) (hb : b < w.heap.size) (a : Option Addr) (s : List Int) (c : Nat) (W : World) (hr : ints.Reads .i64 W a s) (hn : s.length ≤ 1048576) (hB : Below w.heap.size w W) :
    FnGives Try.prog 148 #[.pointer (some ⟨b, 0, none⟩)] #[.slice a s.length c] (.bool (!(rowsB' n s))) W := by
  show Calls Try.prog _ #[.slice a s.length c, .pointer (some ⟨b, 0, none⟩)] W _
  have hc2 := cell_below hB hc hb
  obtain ⟨ok, hx⟩ : ∃ ok, rowsB' n s = ok := ⟨_, rfl⟩
  rw [hx]
  have Hhr := Lib.hid hr
  clear hB hc hr
  by_cases hl : (s.length : Int) = n
  · have g : ((s.length : Int) != n) = false := by simp [hl]
    have H2 : Hid (numsR 0 1 s = ok) := Lib.hid (by rw [← hx]; unfold rowsB'; rw [decide_eq_true hl, Bool.and_true])
    clear hx hl
    go_enter Try.func148, Try.ntmps148
    go_wp2_with fail
    refine (impl_bits a s c _ Hhr.out hn ok H2).mono ?_
    rintro e w' ⟨rfl, q, rfl⟩
    cases ok
    all_goals (go_wp2_with fail; go_ret; exact ⟨rfl, _, rfl⟩)
  · have g : ((s.length : Int) != n) = true := by simp [hl]
    have e : ok = false := by rw [← hx]; unfold rowsB'; rw [decide_eq_false hl, Bool.and_false]
    clear hx hl
    subst e
    go_enter Try.func148, Try.ntmps148
    go_wp2_with fail
    go_ret
    exact ⟨rfl, 0, rfl⟩
theorem any_rows (n : Int) (rows : List (List Int)) (m : Nat) (h : rows.length = m) : (List.finRange m).any (fun i => !(rowsB' n (rows.getD i.val []))) = !(rowsAll n rows) := by
  rw [Bool.eq_iff_iff]
  simp only [List.any_eq_true, Bool.not_eq_true', rowsAll, List.all_eq_false, List.mem_finRange, true_and]
  constructor
  · rintro ⟨i, hi⟩
    exact ⟨_, getD_mem rows [] i.val (by rw [h]; exact i.isLt), by rw [hi]; simp⟩
  · rintro ⟨r, hr, hb⟩
    obtain ⟨k, hk, e⟩ := mem_getD rows [] r hr
    exact ⟨⟨k, by omega⟩, by show rowsB' n (rows.getD k []) = false; rw [e]; simpa using hb⟩

set_option maxHeartbeats 1000000 in
theorem impl_contains (n : Int) (bb : Nat) (a : Option Addr) (rows : List (List Int)) (c : Nat) (w : World) (hc : w.cell? ⟨bb, 0, none⟩ = some (.int .i64 n)) (hbb : bb < w.heap.size) (hr : grid.Reads w a rows) (hn : rows.length ≤ 1048576) (hm : ∀ r ∈ rows, r.length ≤ 1048576) :
    Calls Try.prog 147 #[.slice a rows.length c, .func (.func 148) #[] #[.pointer (some ⟨bb, 0, none⟩)]] w fun e w' => e = .returned (.bool (!(rowsAll n rows))) ∧ ∃ q, w' = w.drewN q := by
  rcases hr with rfl | ⟨b, off, rfl, hb, hrd⟩
  · refine (Try.slices_ContainsFunc_empty_f147 (α := Int) _ _ _ _).mono ?_
    rintro e w' ⟨rfl, rfl⟩
    exact ⟨rfl, 0, rfl⟩
  · by_cases h0 : rows.length = 0
    · obtain rfl : rows = [] := List.length_eq_zero_iff.1 h0
      refine (Try.slices_ContainsFunc_empty_f147 (α := Int) _ _ _ _).mono ?_
      rintro e w' ⟨rfl, rfl⟩
      exact ⟨rfl, 0, rfl⟩
    obtain ⟨m, hmm⟩ : ∃ m, rows.length = m + 1 := ⟨rows.length - 1, by omega⟩
    have hx : ∀ i : Fin (m + 1), ∃ q : Option Addr × Nat, w.cell? ⟨b, off + i.val, none⟩ = some (.slice q.1 (rows.getD i.val []).length q.2) ∧ ints.Reads .i64 w q.1 (rows.getD i.val []) := fun i => by
      obtain ⟨p, c', h1, h2, h3⟩ := hrd i.val (by rw [hmm]; exact i.isLt)
      exact ⟨(p, c'), h1, h3⟩
    let f : Fin (m + 1) → Option Addr × Nat := fun i => Classical.choose (hx i)
    have hf : ∀ i, w.cell? ⟨b, off + i.val, none⟩ = some (.slice (f i).1 (rows.getD i.val []).length (f i).2) ∧ ints.Reads .i64 w (f i).1 (rows.getD i.val []) := fun i => Classical.choose_spec (hx i)
    have hfl : (List.finRange (m + 1)).length = m + 1 := by simp
    have hcall := Try.slices_ContainsFunc_f147 (α := Fin (m + 1)) (fun i => Value.slice (f i).1 (rows.getD i.val []).length (f i).2) (fun i => !(rowsB' n (rows.getD i.val []))) 148 #[.pointer (some ⟨bb, 0, none⟩)] (enters_of Try.func148 (by kernel_rfl) rfl) b off rows.length c (List.finRange (m + 1)) w
      (fun W i hB => row_at n bb w hc hbb (f i).1 (rows.getD i.val []) (f i).2 W ((hf i).2.below hB) (hm _ (getD_mem rows [] i.val (by rw [hmm]; exact i.isLt))) hB)
      (by rw [hfl, hmm]; exact Nat.le_refl _) (by omega)
      (fun j hj => by
        have hj' : j < m + 1 := by rw [hfl] at hj; exact hj
        have e : (List.finRange (m + 1))[j]! = ⟨j, hj'⟩ := by
          rw [getElem!_pos _ j hj]; simp
        rw [e]
        exact (hf ⟨j, hj'⟩).1)
    refine hcall.mono ?_
    rintro e w' ⟨rfl, q, rfl⟩
    refine ⟨?_, _, rfl⟩
    rw [List.take_of_length_le (by rw [hfl, hmm]; exact Nat.le_refl _), any_rows n rows (m + 1) hmm]
set_option maxHeartbeats 1000000 in
theorem impl_rows (n : Int) (a : Option Addr) (rows : List (List Int)) (c : Nat) (w : World) (hr : grid.Reads w a rows) (hn : rows.length ≤ 1048576) (hm : ∀ r ∈ rows, r.length ≤ 1048576) (ok : Bool) (h : Hid (allB n rows = ok)) :
    Calls Try.prog 124 #[.int .i64 n, .slice a rows.length c] w (RetB ok w) := by
  have hb0 := below_alloc w (.cells #[.int .i64 n] 3)
  have HB := Lib.hid hb0
  have x0 : (w.alloc (.cells #[.int .i64 n] 3)).cell? ⟨w.heap.size, 0, none⟩ = some (.int .i64 n) := cell_new _ _ _ rfl rfl
  have HC := Lib.hid (impl_contains n w.heap.size a rows c _ x0 (by simp) (hr.below hb0) hn hm)
  clear hr hm hb0
  cases h1 : (decide (1 ≤ n) && decide (n ≤ 8))
  · have e : ok = false := by rw [← h.out]; unfold allB; rw [h1, Bool.and_false, Bool.false_and]
    have H1 := Lib.hid h1
    clear h h1
    subst e
    go_enter Try.func124, Try.ntmps124
    go_wp2_with fail
    refine (count_any _ _ false H1).mono ?_
    rintro e w' ⟨rfl, rfl⟩
    go_wp2_with fail
    go_ret
    exact ⟨rfl, HB.out⟩
  · by_cases h4 : (rows.length : Int) ≤ 40
    · have e : rowsAll n rows = ok := by rw [← h.out]; unfold allB; rw [h1, decide_eq_true h4, Bool.and_true, Bool.and_true]
      rw [e] at HC
      have H1 := Lib.hid h1
      have g : decide ((40 : Int) < (rows.length : Int)) = false := decide_eq_false (by omega)
      clear h h1 e h4
      go_enter Try.func124, Try.ntmps124
      go_wp2_with fail
      refine (count_any _ _ true H1).mono ?_
      rintro e w' ⟨rfl, rfl⟩
      go_wp2_with fail
      refine HC.out.mono ?_
      rintro e w' ⟨rfl, q, rfl⟩
      cases ok
      all_goals (go_wp2_with fail; go_ret; exact ⟨rfl, ints.below_drewN HB.out _⟩)
    · have e : ok = false := by rw [← h.out]; unfold allB; rw [decide_eq_false h4, Bool.and_false]
      have H1 := Lib.hid h1
      have g : decide ((40 : Int) < (rows.length : Int)) = true := decide_eq_true (by omega)
      clear h h1 h4
      subst e
      go_enter Try.func124, Try.ntmps124
      go_wp2_with fail
      refine (count_any _ _ true H1).mono ?_
      rintro e w' ⟨rfl, rfl⟩
      go_wp2_with fail
      go_ret
      exact ⟨rfl, HB.out⟩
end Go.Proofs.Ytocbklmkphgkeaa.rowsw
