/- Laws of operations on the rows of outcomes: they are made, built, stored and handed back. -/
import Derived.Test.YtobdapalllaceaaOutc
import Derived.Laws.Rows
import Derived.Laws.Tables
namespace Go.Proofs.Ytobdapalllaceaa.outc
open Go.RowKit own pp nums 
set_option linter.unusedVariables false
set_option linter.unusedSimpArgs false

def no (_ : Nat) : Bool := false
theorem infoZ : (Try.prog.info? 77).map (·.zero) = some (some (.agg (oc 0 no))) := by kernel_rfl
theorem run_zero (w : World) : (zeroValue 77).run Try.prog w = .ok (.agg (oc 0 no)) w := by
  have h := infoZ
  cases hq : Try.prog.info? 77 with
  | none => rw [hq] at h; cases h
  | some i =>
    have hs : i.zero = some (.agg (oc 0 no)) := by rw [hq] at h; simpa using h
    simp [zeroValue, Sem.run_bind, typeInfo, hq, hs]
theorem oc_all (n : Nat) (p : Nat → Bool) : (oc n p).all (·.oneCell') = true := by
  rw [Array.all_eq_true']
  intro x hx
  exact oc_one n p x (by simpa using hx)
theorem wp_alloc {ops : Array Oper} {rest : List Oper} {o : Oper} {a : Act} {w : World} {Q : Exit → Act → World → Prop} (hgd : o.guard = none) (ho : o.op = .alloc 77)
    (h : ∀ w', Box w' w.heap.size 0 no → Below w.heap.size w w' → w'.heap.size = w.heap.size + 1 → wpList Try.prog ops Q rest (a.put o.dst (.pointer (some ⟨w.heap.size, 0, none⟩))) w') : wpList Try.prog ops Q (o :: rest) a w := by
  refine wpList_plain hgd fun K hK => ?_
  unfold Oper.wp execOp
  simp only [ho, Instr.alloc, Sem.run_bind, Sem.run_pure, Result.andThen_ok, run_zero, newVar, newRow, Value.cells]
  exact hK _ _ (h _ (Box.new w 0 no) (below_alloc w _) (by simp))
theorem built0 : Try.prog.built 77 [] = some (oc 0 no) := by kernel_rfl
theorem built1 (n : Int) : Try.prog.built 77 [(0, .int .i64 n)] = some ((Value.int .i64 n :: (List.range 256).map fun k => Value.bool (no k)).toArray) := by kernel_rfl
theorem wp_store {ops : Array Oper} {rest : List Oper} {o : Oper} {a : Act} {w : World} {Q : Exit → Act → World → Prop} (hgd : o.guard = none) (x y : Operand) (ho : o.op = .store 77 x y)
    (g n : Nat) (p : Nat → Bool) (hx : a.eval x = .pointer (some ⟨g, 0, none⟩)) (hy : a.eval y = .agg (oc n p)) (n0 : Nat) (p0 : Nat → Bool) (hb : Box w g n0 p0)
    (h : ∀ w', Box w' g n p → Only g (g + 1) w w' → w'.heap.size = w.heap.size → wpList Try.prog ops Q rest (a.put o.dst undef) w') : wpList Try.prog ops Q (o :: rest) a w := by
  have hg : g < w.heap.size := by
    by_cases hlt : g < w.heap.size
    · exact hlt
    · have hn : w.heap[g]? = none := by simp; omega
      unfold Box at hb
      rw [hn] at hb; cases hb
  refine wpList_store_row hgd 77 x y ho g (oc n p) hx hy 77 (oc n0 p0) hb (by rw [oc_size]; exact info) (by rw [oc_size, oc_size]) (oc_all n p) (h _ (setRow_heap w g _ _ _ _ hb) ⟨rfl, rfl, rfl, by simp, fun k hk hko => setRow_other w g k _ (by omega)⟩ (by simp))
theorem results_oc2 {fn : Func} {p q : Tmp} (hf : fn.results = #[.cell p 77, .tmp q]) (tmps : Array Value) (w : World) (g n : Nat) (pp : Nat → Bool) (v : Value)
    (hp : tmps.getD p undef = .pointer (some ⟨g, 0, none⟩)) (hv : tmps.getD q undef = v) (hb : Box w g n pp) : (results fn tmps).run Try.prog w = .ok (.tuple #[.agg (oc n pp), v]) w := by
  have hp' : tmps[p]?.getD undef = .pointer (some ⟨g, 0, none⟩) := by simpa using hp
  have hv' : tmps[q]?.getD undef = v := by simpa using hv
  have hl := run_loadVar_row (P := Try.prog) w g 77 77 (oc n pp) (0, 0) _ hb Try.underlying77 rfl (by rw [oc_size]; exact info)
  simp [results, hf, hp', hv', asAddr, hl]
/-- The first k of the sets' wins, behind them none. -/
def upto (win : Nat → Bool) (k : Nat) : Nat → Bool := fun j => decide (j < k) && win j
theorem upto_zero (win : Nat → Bool) : upto win 0 = no := by funext j; simp [upto, no]
theorem upto_at (win : Nat → Bool) (k j : Nat) (h : j < k) : upto win k j = win j := by simp [upto, h]
theorem upto_ge (win : Nat → Bool) (k j : Nat) (h : k ≤ j) : upto win k j = false := by simp [upto]; omega
theorem oc_set (n : Nat) (win : Nat → Bool) (k : Nat) (h : k < 256) : (oc n (upto win k)).setIfInBounds (1 + k) (.bool (win k)) = oc n (upto win (k + 1)) := by
  unfold oc
  rw [List.setIfInBounds_toArray, Nat.add_comm 1 k, List.set_cons_succ]
  congr 2
  apply List.ext_getElem?
  intro i
  rw [List.getElem?_set]
  simp only [List.length_map, List.length_range, List.getElem?_map]
  by_cases e : k = i
  · subst e
    rw [if_pos rfl, if_pos h, List.getElem?_range h]
    simp [upto]
  · rw [if_neg e]
    by_cases hi : i < 256
    · rw [List.getElem?_range hi]
      simp only [Option.map_some, Option.some.injEq, Value.bool.injEq, upto]
      congr 1
      rw [Bool.eq_iff_iff, decide_eq_true_eq, decide_eq_true_eq]
      omega
    · rw [List.getElem?_eq_none (by simp; omega)]
      rfl
theorem Box.set {W : World} {g n : Nat} {win : Nat → Bool} {k : Nat} (h : Box W g n (upto win k)) (hk : k < 256) : Box (W.setCell ⟨g, 1 + k, none⟩ (.bool (win k))) g n (upto win (k + 1)) := by
  have := heap_setCell_same W g (1 + k) _ _ (.bool (win k)) h
  rw [oc_set n win k hk] at this
  exact this
theorem only_set (W : World) (g i : Nat) (v : Value) : Only g (g + 1) W (W.setCell ⟨g, i, none⟩ v) :=
  ⟨rfl, rfl, rfl, by rw [size_set]; exact Nat.le_refl _, fun k hk hko => heap_setCell_other W ⟨g, i, none⟩ k v (by show k ≠ g; omega)⟩
theorem Box.frozen {W : World} {g n : Nat} {p : Nat → Bool} (h : Box W g n p) (j : Nat) : W.frozen? ⟨g, j, none⟩ = false := frozen_of_row W g j _ _ h
theorem Box.only {W W' : World} {g n lo hi : Nat} {p : Nat → Bool} (h : Box W g n p) (ho : Only lo hi W W') (hg : g < lo ∨ hi ≤ g) : Box W' g n p := by
  have hlt : g < W.heap.size := by
    by_cases hlt : g < W.heap.size
    · exact hlt
    · have hn : W.heap[g]? = none := by simp; omega
      unfold Box at h
      rw [hn] at h; cases h
  exact (ho.block g hlt hg).trans h
def RetO (n : Nat) (p : Nat → Bool) (ok : Bool) (w : World) (e : Ending) (w' : World) : Prop := e = .returned (.tuple #[.agg (oc n p), .bool ok]) ∧ Below w.heap.size w w'
end Go.Proofs.Ytobdapalllaceaa.outc
