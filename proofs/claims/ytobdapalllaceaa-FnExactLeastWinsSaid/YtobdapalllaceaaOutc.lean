/- Outcomes as values: a number and 256 truth values; the walks of the methods that read them. -/
import Derived.Test.YtobdapalllaceaaWhere
import Derived.Test.YtobdapalllaceaaBitN
import Derived.IntWalk
import Derived.Outline
import Derived.Laws.Rows
import Derived.BigQuiet
namespace Go.Proofs.Ytobdapalllaceaa.outc
open Go.RowKit own pp nums mk bitn
set_option linter.unusedVariables false
set_option linter.unusedSimpArgs false

/-- The cells of an outcome: the number of voters, and whether each set wins. -/
def oc (n : Nat) (p : Nat → Bool) : Array Value := (Value.int .i64 (n : Int) :: (List.range 256).map fun k => Value.bool (p k)).toArray
theorem oc_size (n : Nat) (p : Nat → Bool) : (oc n p).size = 257 := by simp [oc]
theorem oc_zero (n : Nat) (p : Nat → Bool) : (oc n p)[0]? = some (.int .i64 (n : Int)) := by simp [oc]
theorem oc_at (n : Nat) (p : Nat → Bool) (k : Nat) (h : k < 256) : (oc n p)[1 + k]? = some (.bool (p k)) := by
  unfold oc
  rw [List.getElem?_toArray, Nat.add_comm, List.getElem?_cons_succ, List.getElem?_map, List.getElem?_range h]
  rfl
theorem oc_one (n : Nat) (p : Nat → Bool) : ∀ v ∈ (oc n p).toList, v.oneCell' = true := by
  intro v hv
  simp only [oc, List.mem_cons, List.mem_map] at hv
  rcases hv with rfl | ⟨k, _, rfl⟩ <;> rfl
theorem info : (Try.prog.info? 77).map (·.size) = some 257 := by kernel_rfl
theorem pow8 {n : Nat} (h : n ≤ 8) : 1 ≤ 2 ^ n ∧ 2 ^ n ≤ 256 := by
  have h2 : n = 0 ∨ n = 1 ∨ n = 2 ∨ n = 3 ∨ n = 4 ∨ n = 5 ∨ n = 6 ∨ n = 7 ∨ n = 8 := by omega
  rcases h2 with e | e | e | e | e | e | e | e | e <;> rw [e] <;> decide
/-- What an outcome's box holds. -/
def Box (W : World) (g n : Nat) (p : Nat → Bool) : Prop := W.heap[g]? = some (.cells (oc n p) 77 (0, 0))
theorem Box.below {W W' : World} {g n : Nat} {p : Nat → Bool} {B : Nat} (h : Box W g n p) (hb : Below B W W') (hg : g < B) : Box W' g n p := (hb.block g hg).trans h
theorem Box.new (W : World) (n : Nat) (p : Nat → Bool) : Box (W.alloc (.cells (oc n p) 77)) W.heap.size n p := heap_alloc_new _ _
theorem Box.cell0 {W : World} {g n : Nat} {p : Nat → Bool} (h : Box W g n p) : W.cell? ⟨g, 0, none⟩ = some (.int .i64 (n : Int)) := by
  rw [cell_of_row W g 0 _ _ _ h]; exact oc_zero n p
theorem Box.cellAt {W : World} {g n : Nat} {p : Nat → Bool} (h : Box W g n p) (k : Nat) (hk : k < 256) : W.cell? ⟨g, 1 + k, none⟩ = some (.bool (p k)) := by
  rw [cell_of_row W g (1 + k) _ _ _ h]; exact oc_at n p k hk

set_option maxRecDepth 100000 in
set_option maxHeartbeats 1000000 in
theorem all_any (n : Nat) (p : Nat → Bool) (w : World) (h8 : n ≤ 8) :
    Calls Try.prog 142 #[.agg (oc n p)] w (fun e w' => e = .returned (.int .i64 (((2 ^ n : Nat) : Int) - 1)) ∧ Below w.heap.size w w') := by
  obtain ⟨N, hN⟩ : ∃ N : Nat, 2 ^ n = N := ⟨_, rfl⟩
  obtain ⟨hp1, hp2⟩ := pow8 h8
  have h2 : (2 : Int) ^ n = (N : Int) := by rw [← hN]; simp
  have c0 := oc_zero n p
  rw [hN] at hp1 hp2 ⊢
  clear hN
  go_enter Try.func142, Try.ntmps142
  go_wp2_with fail
  go_ret
  exact ⟨rfl, below_alloc _ _⟩
set_option maxRecDepth 100000 in
set_option maxHeartbeats 1000000 in
theorem swing_any (n : Nat) (p : Nat → Bool) (k i : Nat) (w : World) (hk : k < 256) (hi : i < 8) (ok : Bool) (hok : Hid ((p k && !(p (off k i))) = ok)) :
    Calls Try.prog 139 #[.agg (oc n p), .int .i64 k, .int .i64 i] w (fun e w' => e = .returned (.bool ok) ∧ Below w.heap.size w w') := by
  obtain ⟨N, hN⟩ : ∃ N : Nat, 2 ^ i = N := ⟨_, rfl⟩
  obtain ⟨hp1, hp2⟩ := pow8 (n := i) (by omega)
  have h2 : (2 : Int) ^ i = (N : Int) := by rw [← hN]; simp
  have hb := off_at k i hk hi
  have ho := off_le k i
  have c1 := oc_at n p k hk
  have c2 := oc_at n p (off k i) (by omega)
  have HOK := hok
  rw [hN] at hp1 hp2 hb
  clear hN hok
  generalize off k i = q at *
  have i1 : (0 : Int) ≤ (k : Int) := by omega
  have i2 : (k : Int) < 256 := by omega
  have i3 : (0 : Int) ≤ (q : Int) := by omega
  have i4 : (q : Int) < 256 := by omega
  cases hx : p k
  · rw [hx] at c1 HOK
    obtain rfl : ok = false := by rw [← HOK.out]; rfl
    clear HOK hx c2
    go_enter Try.func139, Try.ntmps139
    go_wp2_with fail
    go_ret
    exact ⟨rfl, below_alloc _ _⟩
  · rw [hx] at c1 HOK
    cases hy : p q
    · rw [hy] at c2 HOK
      obtain rfl : ok = true := by rw [← HOK.out]; rfl
      clear HOK hx hy
      go_enter Try.func139, Try.ntmps139
      go_wp2_with fail
      go_ret
      exact ⟨rfl, below_alloc _ _⟩
    · rw [hy] at c2 HOK
      obtain rfl : ok = false := by rw [← HOK.out]; rfl
      clear HOK hx hy
      go_enter Try.func139, Try.ntmps139
      go_wp2_with fail
      go_ret
      exact ⟨rfl, below_alloc _ _⟩
theorem wp_load {ops : Array Oper} {rest : List Oper} {o : Oper} {a : Act} {w : World} {Q : Exit → Act → World → Prop} (hgd : o.guard = none) (x : Operand) (ho : o.op = .load 77 x)
    (g n : Nat) (p : Nat → Bool) (hx : a.eval x = .pointer (some ⟨g, 0, none⟩)) (hb : Box w g n p)
    (h : wpList Try.prog ops Q rest (a.put o.dst (.agg (oc n p))) w) : wpList Try.prog ops Q (o :: rest) a w :=
  wpList_load_row hgd 77 x ho g hx 77 (oc n p) (0, 0) _ hb Try.underlying77 rfl (by rw [oc_size]; exact info) h
set_option maxRecDepth 100000 in
set_option maxHeartbeats 1000000 in
theorem voters1 (fn : Nat) (he : Enters Try.prog fn) (c1 : Value) (n : Nat) (p : Nat → Bool) (q : Nat → Bool) (w : World) (h8 : n ≤ 8)
    (HC : Hid (∀ (k : Nat) (wr : World), k < n → Below w.heap.size w wr → Calls Try.prog fn #[.int .i64 k, c1] wr fun e w' => e = .returned (.bool (q k)) ∧ Below wr.heap.size wr w')) :
    Calls Try.prog 137 #[.agg (oc n p), .func (.func fn) #[] #[c1]] w (intfns.Made (pwh.placesTo q n) w) := by
  have c0 := oc_zero n p
  have HB0 := Lib.hid (below_alloc w (.cells (oc n p) 77))
  have HW := Lib.hid (show Calls Try.prog 132 #[.int .i64 n, .func (.func fn) #[] #[c1]] (w.alloc (.cells (oc n p) 77)) (intfns.Made (pwh.placesTo q n) (w.alloc (.cells (oc n p) 77))) from pwh.where1 fn he c1 n q _ (by omega) (Lib.hid (fun k wr hk hbr => HC.out k wr hk (HB0.out.trans (hbr.mono HB0.out.size)))))
  clear he
  go_enter Try.func137, Try.ntmps137
  go_wp2_with fail
  refine HW.out.mono ?_
  rintro e w2 ⟨v, rfl, ho, hb2⟩
  have HF := Lib.hid (show intfns.Made (pwh.placesTo q n) w (.returned v) w2 from ⟨v, rfl, ho.mono HB0.out.size (Nat.le_refl _), HB0.out.trans (hb2.mono HB0.out.size)⟩)
  clear ho hb2
  go_wp2_with fail
  go_ret
  exact HF.out
set_option maxRecDepth 100000 in
set_option maxHeartbeats 1000000 in
theorem voters2 (fn : Nat) (he : Enters Try.prog fn) (c1 c2 : Value) (n : Nat) (p : Nat → Bool) (q : Nat → Bool) (w : World) (h8 : n ≤ 8)
    (HC : Hid (∀ (k : Nat) (wr : World), k < n → Below w.heap.size w wr → Calls Try.prog fn #[.int .i64 k, c1, c2] wr fun e w' => e = .returned (.bool (q k)) ∧ Below wr.heap.size wr w')) :
    Calls Try.prog 137 #[.agg (oc n p), .func (.func fn) #[] #[c1, c2]] w (intfns.Made (pwh.placesTo q n) w) := by
  have c0 := oc_zero n p
  have HB0 := Lib.hid (below_alloc w (.cells (oc n p) 77))
  have HW := Lib.hid (show Calls Try.prog 132 #[.int .i64 n, .func (.func fn) #[] #[c1, c2]] (w.alloc (.cells (oc n p) 77)) (intfns.Made (pwh.placesTo q n) (w.alloc (.cells (oc n p) 77))) from pwh.where2 fn he c1 c2 n q _ (by omega) (Lib.hid (fun k wr hk hbr => HC.out k wr hk (HB0.out.trans (hbr.mono HB0.out.size)))))
  clear he
  go_enter Try.func137, Try.ntmps137
  go_wp2_with fail
  refine HW.out.mono ?_
  rintro e w2 ⟨v, rfl, ho, hb2⟩
  have HF := Lib.hid (show intfns.Made (pwh.placesTo q n) w (.returned v) w2 from ⟨v, rfl, ho.mono HB0.out.size (Nat.le_refl _), HB0.out.trans (hb2.mono HB0.out.size)⟩)
  clear ho hb2
  go_wp2_with fail
  go_ret
  exact HF.out
set_option maxRecDepth 100000 in
set_option maxHeartbeats 1000000 in
theorem votersB (fn : Nat) (he : Enters Try.prog fn) (c1 : Value) (n : Nat) (p : Nat → Bool) (q : Nat → Bool) (w : World) (h8 : n ≤ 8)
    (HC : Hid (∀ (k : Nat) (wr : World), k < n → Below w.heap.size w wr → Calls Try.prog fn #[c1, .int .i64 k] wr fun e w' => e = .returned (.bool (q k)) ∧ Below wr.heap.size wr w')) :
    Calls Try.prog 137 #[.agg (oc n p), .func (.func fn) #[c1] #[]] w (intfns.Made (pwh.placesTo q n) w) := by
  have c0 := oc_zero n p
  have HB0 := Lib.hid (below_alloc w (.cells (oc n p) 77))
  have HW := Lib.hid (show Calls Try.prog 132 #[.int .i64 n, .func (.func fn) #[c1] #[]] (w.alloc (.cells (oc n p) 77)) (intfns.Made (pwh.placesTo q n) (w.alloc (.cells (oc n p) 77))) from pwh.whereB fn he c1 n q _ (by omega) (Lib.hid (fun k wr hk hbr => HC.out k wr hk (HB0.out.trans (hbr.mono HB0.out.size)))))
  clear he
  go_enter Try.func137, Try.ntmps137
  go_wp2_with fail
  refine HW.out.mono ?_
  rintro e w2 ⟨v, rfl, ho, hb2⟩
  have HF := Lib.hid (show intfns.Made (pwh.placesTo q n) w (.returned v) w2 from ⟨v, rfl, ho.mono HB0.out.size (Nat.le_refl _), HB0.out.trans (hb2.mono HB0.out.size)⟩)
  clear ho hb2
  go_wp2_with fail
  go_ret
  exact HF.out
theorem wpo_load {o : Oper} {a : Act} {w : World} {K : Act → World → Prop} {Q : Exit → Act → World → Prop} (x : Operand) (ho : o.op = .load 77 x)
    (g n : Nat) (p : Nat → Bool) (hx : a.eval x = .pointer (some ⟨g, 0, none⟩)) (hb : Box w g n p) (h : K (a.put o.dst (.agg (oc n p))) w) : o.wp Try.prog a w K Q :=
  wp_load_row 77 x ho g hx 77 (oc n p) (0, 0) _ hb Try.underlying77 rfl (by rw [oc_size]; exact info) h
theorem wp_load_w {ops : Array Oper} {rest : List Oper} {o : Oper} {a : Act} {w : World} {Q : Exit → Act → World → Prop} (hw : Region.wanted o (yielded ops a.tmps) = true) (x : Operand) (ho : o.op = .load 77 x)
    (g n : Nat) (p : Nat → Bool) (hx : a.eval x = .pointer (some ⟨g, 0, none⟩)) (hb : Box w g n p)
    (h : wpList Try.prog ops Q rest (a.put o.dst (.agg (oc n p))) w) : wpList Try.prog ops Q (o :: rest) a w :=
  wpList_step fun K hK => by rw [if_pos hw]; exact wpo_load x ho g n p hx hb (hK _ _ h)
theorem Box.drew {W : World} {g n : Nat} {p : Nat → Bool} (h : Box W g n p) : Box W.drew g n p := h
end Go.Proofs.Ytobdapalllaceaa.outc
