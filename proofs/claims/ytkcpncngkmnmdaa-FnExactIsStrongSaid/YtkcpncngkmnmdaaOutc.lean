/- Outcomes as values: a number and 256 truth values; the walks of the methods that read them. -/
import Derived.Test.YtkcpncngkmnmdaaWhere
import Derived.Test.YtkcpncngkmnmdaaBitN
import Derived.IntWalk
import Derived.Outline
import Derived.Laws.Rows
import Derived.BigQuiet
namespace Go.Proofs.Ytkcpncngkmnmdaa.outc
open Go.RowKit own pp nums mk bitn
set_option linter.unusedVariables false
set_option linter.unusedSimpArgs false

/-- The cells of an outcome: the number of voters, and whether each set wins. -/
def oc (n : Nat) (p : Nat → Bool) : Array Value := (Value.int .i64 (n : Int) :: (List.range 256).map fun k => Value.bool (p k)).toArray
theorem oc_size (n : Nat) (p : Nat → Bool) : (oc n p).size = 257 := by simp [oc]
theorem oc_zero (n : Nat) (p : Nat → Bool) : (oc n p)[0]? = some (.int .i64 (n : Int)) := by simp [oc]
theorem oc_at (n : Nat) (p : Nat → Bool) (k : Nat) (h : k < 256) : (oc n p)[1 + k]? = some (.bool (p k)) := by
  unfold oc
  rw [List.getElem?_toArray, Nat.add_comm, List.getElem?_cons_succ, List.getElem?_map, List.getElem?_range h]
  rfl
theorem oc_one (n : Nat) (p : Nat → Bool) : ∀ v ∈ (oc n p).toList, v.oneCell' = true := by
  intro v hv
  simp only [oc, List.mem_cons, List.mem_map] at hv
  rcases hv with rfl | ⟨k, _, rfl⟩ <;> rfl
theorem info : (Try.prog.info? 53).map (·.size) = some 257 := by kernel_rfl
theorem pow8 {n : Nat} (h : n ≤ 8) : 1 ≤ 2 ^ n ∧ 2 ^ n ≤ 256 := by
  have h2 : n = 0 ∨ n = 1 ∨ n = 2 ∨ n = 3 ∨ n = 4 ∨ n = 5 ∨ n = 6 ∨ n = 7 ∨ n = 8 := by omega
  rcases h2 with e | e | e | e | e | e | e | e | e <;> rw [e] <;> decide
/-- What an outcome's box holds. -/
def Box (W : World) (g n : Nat) (p : Nat → Bool) : Prop := W.heap[g]? = some (.cells (oc n p) 53 (0, 0))
theorem Box.below {W W' : World} {g n : Nat} {p : Nat → Bool} {B : Nat} (h : Box W g n p) (hb : Below B W W') (hg : g < B) : Box W' g n p := (hb.block g hg).trans h
theorem Box.new (W : World) (n : Nat) (p : Nat → Bool) : Box (W.alloc (.cells (oc n p) 53)) W.heap.size n p := heap_alloc_new _ _
theorem Box.cell0 {W : World} {g n : Nat} {p : Nat → Bool} (h : Box W g n p) : W.cell? ⟨g, 0, none⟩ = some (.int .i64 (n : Int)) := by
  rw [cell_of_row W g 0 _ _ _ h]; exact oc_zero n p
theorem Box.cellAt {W : World} {g n : Nat} {p : Nat → Bool} (h : Box W g n p) (k : Nat) (hk : k < 256) : W.cell? ⟨g, 1 + k, none⟩ = some (.bool (p k)) := by
  rw [cell_of_row W g (1 + k) _ _ _ h]; exact oc_at n p k hk

set_option maxRecDepth 100000 in
set_option maxHeartbeats 1000000 in
theorem all_any (n : Nat) (p : Nat → Bool) (w : World) (h8 : n ≤ 8) :
    Calls Try.prog 73 #[.agg (oc n p)] w (fun e w' => e = .returned (.int .i64 (((2 ^ n : Nat) : Int) - 1)) ∧ Below w.heap.size w w') := by
  obtain ⟨N, hN⟩ : ∃ N : Nat, 2 ^ n = N := ⟨_, rfl⟩
  obtain ⟨hp1, hp2⟩ := pow8 h8
  have h2 : (2 : Int) ^ n = (N : Int) := by rw [← hN]; simp
  have c0 := oc_zero n p
  rw [hN] at hp1 hp2 ⊢
  clear hN
  go_enter Try.func73, Try.ntmps73
  go_wp2_with fail
  go_ret
  exact ⟨rfl, below_alloc _ _⟩
set_option maxRecDepth 100000 in
set_option maxHeartbeats 1000000 in
theorem swing_any (n : Nat) (p : Nat → Bool) (k i : Nat) (w : World) (hk : k < 256) (hi : i < 8) (ok : Bool) (hok : Hid ((p k && !(p (off k i))) = ok)) :
    Calls Try.prog 91 #[.agg (oc n p), .int .i64 k, .int .i64 i] w (fun e w' => e = .returned (.bool ok) ∧ Below w.heap.size w w') := by
  obtain ⟨N, hN⟩ : ∃ N : Nat, 2 ^ i = N := ⟨_, rfl⟩
  obtain ⟨hp1, hp2⟩ := pow8 (n := i) (by omega)
  have h2 : (2 : Int) ^ i = (N : Int) := by rw [← hN]; simp
  have hb := off_at k i hk hi
  have ho := off_le k i
  have c1 := oc_at n p k hk
  have c2 := oc_at n p (off k i) (by omega)
  have HOK := hok
  rw [hN] at hp1 hp2 hb
  clear hN hok
  generalize off k i = q at *
  have i1 : (0 : Int) ≤ (k : Int) := by omega
  have i2 : (k : Int) < 256 := by omega
  have i3 : (0 : Int) ≤ (q : Int) := by omega
  have i4 : (q : Int) < 256 := by omega
  cases hx : p k
  · rw [hx] at c1 HOK
    obtain rfl : ok = false := by rw [← HOK.out]; rfl
    clear HOK hx c2
    go_enter Try.func91, Try.ntmps91
    go_wp2_with fail
    go_ret
    exact ⟨rfl, below_alloc _ _⟩
  · rw [hx] at c1 HOK
    cases hy : p q
    · rw [hy] at c2 HOK
      obtain rfl : ok = true := by rw [← HOK.out]; rfl
      clear HOK hx hy
      go_enter Try.func91, Try.ntmps91
      go_wp2_with fail
      go_ret
      exact ⟨rfl, below_alloc _ _⟩
    · rw [hy] at c2 HOK
      obtain rfl : ok = false := by rw [← HOK.out]; rfl
      clear HOK hx hy
      go_enter Try.func91, Try.ntmps91
      go_wp2_with fail
      go_ret
      exact ⟨rfl, below_alloc _ _⟩
theorem wp_load {ops : Array Oper} {rest : List Oper} {o : Oper} {a : Act} {w : World} {Q : Exit → Act → World → Prop} (hgd : o.guard = none) (x : Operand) (ho : o.op = .load 53 x)
    (g n : Nat) (p : Nat → Bool) (hx : a.eval x = .pointer (some ⟨g, 0, none⟩)) (hb : Box w g n p)
    (h : wpList Try.prog ops Q rest (a.put o.dst (.agg (oc n p))) w) : wpList Try.prog ops Q (o :: rest) a w :=
  wpList_load_row hgd 53 x ho g hx 53 (oc n p) (0, 0) _ hb Try.underlying53 rfl (by rw [oc_size]; exact info) h
set_option maxRecDepth 100000 in
set_option maxHeartbeats 1000000 in
theorem count1 (fn : Nat) (he : Enters Try.prog fn) (c1 : Value) (n : Nat) (p : Nat → Bool) (q : Nat → Bool) (w : World) (h8 : n ≤ 8)
    (HC : Hid (∀ (k : Nat) (wr : World), k < 2 ^ n → Below w.heap.size w wr → Calls Try.prog fn #[.int .i64 k, c1] wr fun e w' => e = .returned (.bool (q k)) ∧ Below wr.heap.size wr w')) :
    Calls Try.prog 58 #[.agg (oc n p), .func (.func fn) #[] #[c1]] w (fun e w' => e = .returned (.int .i64 (pwh.placesTo q (2 ^ n)).length) ∧ Below w.heap.size w w') := by
  have HE := Lib.hid he
  have HAll := Lib.hid (fun W => all_any n p W h8)
  obtain ⟨hp1, hp2⟩ := pow8 h8
  clear he
  go_enter Try.func58, Try.ntmps58
  have hb : Box (w.alloc (.cells (oc n p) 53)) w.heap.size n p := Box.new w n p
  have HB0 := Lib.hid (below_alloc w (.cells (oc n p) 53))
  have hs0 : w.heap.size < (w.alloc (.cells (oc n p) 53)).heap.size := by simp
  generalize hw0 : w.alloc (.cells (oc n p) 53) = w0 at *
  go_wp2_with (refine wp_load rfl _ rfl _ n p rfl hb ?_)
  clear hw0
  refine (HAll.out _).mono ?_
  rintro e w1 ⟨rfl, hb1⟩
  have HB1 := Lib.hid (HB0.out.trans (hb1.mono (by omega)))
  have HW := Lib.hid (show Calls Try.prog 65 #[.int .i64 ((2 ^ n : Nat) : Int), .func (.func fn) #[] #[c1]] w1 (intfns.Made (pwh.placesTo q (2 ^ n)) w1) from pwh.where1 fn HE.out c1 (2 ^ n) q w1 (by omega) (Lib.hid (fun k wr hk hbr => HC.out k wr hk (HB1.out.trans (hbr.mono HB1.out.size)))))
  clear hb1 hb
  generalize hN : 2 ^ n = N at *
  have HN := Lib.hid hN
  clear hN
  go_wp2_with fail
  refine HW.out.mono ?_
  rintro e w2 ⟨v, rfl, ho, hb2⟩
  obtain ⟨pa, pc, rfl, _, _, _⟩ := ho.slice
  have HB2 := Lib.hid (HB1.out.trans (hb2.mono HB1.out.size))
  clear ho hb2
  go_wp2_with fail
  go_ret
  exact ⟨by rw [HN.out]; rfl, HB2.out⟩
set_option maxRecDepth 100000 in
set_option maxHeartbeats 1000000 in
theorem voters1 (fn : Nat) (he : Enters Try.prog fn) (c1 : Value) (n : Nat) (p : Nat → Bool) (q : Nat → Bool) (w : World) (h8 : n ≤ 8)
    (HC : Hid (∀ (k : Nat) (wr : World), k < n → Below w.heap.size w wr → Calls Try.prog fn #[.int .i64 k, c1] wr fun e w' => e = .returned (.bool (q k)) ∧ Below wr.heap.size wr w')) :
    Calls Try.prog 68 #[.agg (oc n p), .func (.func fn) #[] #[c1]] w (intfns.Made (pwh.placesTo q n) w) := by
  have c0 := oc_zero n p
  have HB0 := Lib.hid (below_alloc w (.cells (oc n p) 53))
  have HW := Lib.hid (show Calls Try.prog 65 #[.int .i64 n, .func (.func fn) #[] #[c1]] (w.alloc (.cells (oc n p) 53)) (intfns.Made (pwh.placesTo q n) (w.alloc (.cells (oc n p) 53))) from pwh.where1 fn he c1 n q _ (by omega) (Lib.hid (fun k wr hk hbr => HC.out k wr hk (HB0.out.trans (hbr.mono HB0.out.size)))))
  clear he
  go_enter Try.func68, Try.ntmps68
  go_wp2_with fail
  refine HW.out.mono ?_
  rintro e w2 ⟨v, rfl, ho, hb2⟩
  have HF := Lib.hid (show intfns.Made (pwh.placesTo q n) w (.returned v) w2 from ⟨v, rfl, ho.mono HB0.out.size (Nat.le_refl _), HB0.out.trans (hb2.mono HB0.out.size)⟩)
  clear ho hb2
  go_wp2_with fail
  go_ret
  exact HF.out
set_option maxRecDepth 100000 in
set_option maxHeartbeats 1000000 in
theorem voters2 (fn : Nat) (he : Enters Try.prog fn) (c1 c2 : Value) (n : Nat) (p : Nat → Bool) (q : Nat → Bool) (w : World) (h8 : n ≤ 8)
    (HC : Hid (∀ (k : Nat) (wr : World), k < n → Below w.heap.size w wr → Calls Try.prog fn #[.int .i64 k, c1, c2] wr fun e w' => e = .returned (.bool (q k)) ∧ Below wr.heap.size wr w')) :
    Calls Try.prog 68 #[.agg (oc n p), .func (.func fn) #[] #[c1, c2]] w (intfns.Made (pwh.placesTo q n) w) := by
  have c0 := oc_zero n p
  have HB0 := Lib.hid (below_alloc w (.cells (oc n p) 53))
  have HW := Lib.hid (show Calls Try.prog 65 #[.int .i64 n, .func (.func fn) #[] #[c1, c2]] (w.alloc (.cells (oc n p) 53)) (intfns.Made (pwh.placesTo q n) (w.alloc (.cells (oc n p) 53))) from pwh.where2 fn he c1 c2 n q _ (by omega) (Lib.hid (fun k wr hk hbr => HC.out k wr hk (HB0.out.trans (hbr.mono HB0.out.size)))))
  clear he
  go_enter Try.func68, Try.ntmps68
  go_wp2_with fail
  refine HW.out.mono ?_
  rintro e w2 ⟨v, rfl, ho, hb2⟩
  have HF := Lib.hid (show intfns.Made (pwh.placesTo q n) w (.returned v) w2 from ⟨v, rfl, ho.mono HB0.out.size (Nat.le_refl _), HB0.out.trans (hb2.mono HB0.out.size)⟩)
  clear ho hb2
  go_wp2_with fail
  go_ret
  exact HF.out
set_option maxRecDepth 100000 in
set_option maxHeartbeats 1000000 in
theorem votersB (fn : Nat) (he : Enters Try.prog fn) (c1 : Value) (n : Nat) (p : Nat → Bool) (q : Nat → Bool) (w : World) (h8 : n ≤ 8)
    (HC : Hid (∀ (k : Nat) (wr : World), k < n → Below w.heap.size w wr → Calls Try.prog fn #[c1, .int .i64 k] wr fun e w' => e = .returned (.bool (q k)) ∧ Below wr.heap.size wr w')) :
    Calls Try.prog 68 #[.agg (oc n p), .func (.func fn) #[c1] #[]] w (intfns.Made (pwh.placesTo q n) w) := by
  have c0 := oc_zero n p
  have HB0 := Lib.hid (below_alloc w (.cells (oc n p) 53))
  have HW := Lib.hid (show Calls Try.prog 65 #[.int .i64 n, .func (.func fn) #[c1] #[]] (w.alloc (.cells (oc n p) 53)) (intfns.Made (pwh.placesTo q n) (w.alloc (.cells (oc n p) 53))) from pwh.whereB fn he c1 n q _ (by omega) (Lib.hid (fun k wr hk hbr => HC.out k wr hk (HB0.out.trans (hbr.mono HB0.out.size)))))
  clear he
  go_enter Try.func68, Try.ntmps68
  go_wp2_with fail
  refine HW.out.mono ?_
  rintro e w2 ⟨v, rfl, ho, hb2⟩
  have HF := Lib.hid (show intfns.Made (pwh.placesTo q n) w (.returned v) w2 from ⟨v, rfl, ho.mono HB0.out.size (Nat.le_refl _), HB0.out.trans (hb2.mono HB0.out.size)⟩)
  clear ho hb2
  go_wp2_with fail
  go_ret
  exact HF.out
theorem wpo_load {o : Oper} {a : Act} {w : World} {K : Act → World → Prop} {Q : Exit → Act → World → Prop} (x : Operand) (ho : o.op = .load 53 x)
    (g n : Nat) (p : Nat → Bool) (hx : a.eval x = .pointer (some ⟨g, 0, none⟩)) (hb : Box w g n p) (h : K (a.put o.dst (.agg (oc n p))) w) : o.wp Try.prog a w K Q :=
  wp_load_row 53 x ho g hx 53 (oc n p) (0, 0) _ hb Try.underlying53 rfl (by rw [oc_size]; exact info) h
theorem wp_load_w {ops : Array Oper} {rest : List Oper} {o : Oper} {a : Act} {w : World} {Q : Exit → Act → World → Prop} (hw : Region.wanted o (yielded ops a.tmps) = true) (x : Operand) (ho : o.op = .load 53 x)
    (g n : Nat) (p : Nat → Bool) (hx : a.eval x = .pointer (some ⟨g, 0, none⟩)) (hb : Box w g n p)
    (h : wpList Try.prog ops Q rest (a.put o.dst (.agg (oc n p))) w) : wpList Try.prog ops Q (o :: rest) a w :=
  wpList_step fun K hK => by rw [if_pos hw]; exact wpo_load x ho g n p hx hb (hK _ _ h)
theorem Box.drew {W : World} {g n : Nat} {p : Nat → Bool} (h : Box W g n p) : Box W.drew g n p := h
set_option maxRecDepth 100000 in
set_option maxHeartbeats 1000000 in
theorem veto_any (n : Nat) (p : Nat → Bool) (i : Nat) (w : World) (h8 : n ≤ 8) (hi : i < n) (ok : Bool) (hok : Hid ((!(p (off (2 ^ n - 1) i))) = ok)) :
    Calls Try.prog 69 #[.agg (oc n p), .int .i64 i] w (fun e w' => e = .returned (.bool ok) ∧ Below w.heap.size w w') := by
  obtain ⟨N, hN⟩ : ∃ N : Nat, 2 ^ n = N := ⟨_, rfl⟩
  obtain ⟨I, hI⟩ : ∃ I : Nat, 2 ^ i = I := ⟨_, rfl⟩
  obtain ⟨hp1, hp2⟩ := pow8 h8
  obtain ⟨hq1, hq2⟩ := pow8 (n := i) (by omega)
  have h2 : (2 : Int) ^ i = (I : Int) := by rw [← hI]; simp
  have hb := off_at (2 ^ n - 1) i (by omega) (by omega)
  have ho := off_le (2 ^ n - 1) i
  have HAll := Lib.hid (fun W => all_any n p W h8)
  rw [hN] at hp1 hp2 hb ho hok HAll
  rw [hI] at hq1 hq2 hb
  rw [show ((N - 1 : Nat) : Int) = (N : Int) - 1 by omega] at hb
  clear hN hI
  generalize off (N - 1) i = q at *
  have hwI : IntKind.i64.wrap (I : Int) = (I : Int) := IntWalk.i64_in _ (by omega)
  have i3 : (0 : Int) ≤ (q : Int) := by omega
  have i4 : (q : Int) < 256 := by omega
  go_enter Try.func69, Try.ntmps69
  have hbx : Box (w.alloc (.cells (oc n p) 53)) w.heap.size n p := Box.new w n p
  have HB0 := Lib.hid (below_alloc w (.cells (oc n p) 53))
  have hs0 : w.heap.size < (w.alloc (.cells (oc n p) 53)).heap.size := by simp
  generalize hw0 : w.alloc (.cells (oc n p) 53) = w0 at *
  go_wp2_with fail
  clear hw0
  refine wp_region_any (by kernel_rfl) ?_
  try (change wpAny _ _ _ _ _ _ _ (World.drew _))
  refine wpAny_take (i := 2) (v := ?_) rfl (by kernel_rfl) (by kernel_rfl) (by kernel_rfl) (fun _ _ _ h => h) (Or.inl ⟨by rfl, ?_⟩) ?_
  rotate_left
  · intro w; go_simp; try with_reducible rfl
  try simp only [List.getElem_toArray, List.getElem_cons_succ, List.getElem_cons_zero, Act.put, List.setIfInBounds_toArray, List.set_cons_zero, List.set_cons_succ]
  refine wpAny_take (i := 3) (v := ?_) rfl (by kernel_rfl) (by kernel_rfl) (by kernel_rfl) (fun _ _ _ h => h) (Or.inl ⟨by rfl, ?_⟩) ?_
  rotate_left
  · intro w; go_simp; try with_reducible rfl
  try simp only [List.getElem_toArray, List.getElem_cons_succ, List.getElem_cons_zero, Act.put, List.setIfInBounds_toArray, List.set_cons_zero, List.set_cons_succ]
  refine wpAny_take (i := 5) (v := ?_) rfl (by kernel_rfl) (by kernel_rfl) (by kernel_rfl) (fun _ _ _ h => h) (Or.inl ⟨by rfl, ?_⟩) ?_
  rotate_left
  · intro w; go_simp; try with_reducible rfl
  try simp only [List.getElem_toArray, List.getElem_cons_succ, List.getElem_cons_zero, Act.put, List.setIfInBounds_toArray, List.set_cons_zero, List.set_cons_succ]
  refine wpAny_ready (rs := [0]) (by kernel_rfl) (by simp) ?_
  refine AllReady.cons rfl (fun K hK => ?_) AllReady.nil
  refine wpo_load _ rfl _ n p rfl hbx.drew ?_
  refine hK _ _ ?_
  clear hK K
  try simp only [List.getElem_toArray, List.getElem_cons_succ, List.getElem_cons_zero, Act.put, List.setIfInBounds_toArray, List.set_cons_zero, List.set_cons_succ]
  refine wpAny_ready (rs := [1]) (by kernel_rfl) (by simp) ?_
  refine AllReady.cons rfl (fun K hK => ?_) AllReady.nil
  go_simp
  refine (HAll.out _).mono ?_
  rintro e w1 ⟨rfl, hb1⟩
  have HB1 := Lib.hid (HB0.out.drew.trans (hb1.mono (by show w.heap.size ≤ w0.heap.size; omega)))
  have c1 := ((hbx.drew.below hb1 (by show w.heap.size < w0.heap.size; omega)).cellAt q (by omega))
  clear hb1
  refine hK _ _ ?_
  clear hK K
  try simp only [List.getElem_toArray, List.getElem_cons_succ, List.getElem_cons_zero, Act.put, List.setIfInBounds_toArray, List.set_cons_zero, List.set_cons_succ]
  refine wpAny_take (i := 4) (v := ?_) rfl (by kernel_rfl) (by kernel_rfl) (by kernel_rfl) (fun _ _ _ h => h) (Or.inl ⟨by rfl, ?_⟩) ?_
  rotate_left
  · intro w; go_simp; try with_reducible rfl
  try simp only [List.getElem_toArray, List.getElem_cons_succ, List.getElem_cons_zero, Act.put, List.setIfInBounds_toArray, List.set_cons_zero, List.set_cons_succ]
  refine wpAny_take (i := 6) (v := ?_) rfl (by kernel_rfl) (by kernel_rfl) (by kernel_rfl) (fun _ _ _ h => h) (Or.inl ⟨by rfl, ?_⟩) ?_
  rotate_left
  · intro w; go_simp; try with_reducible rfl
  try simp only [List.getElem_toArray, List.getElem_cons_succ, List.getElem_cons_zero, Act.put, List.setIfInBounds_toArray, List.set_cons_zero, List.set_cons_succ]
  refine wpAny_ready (rs := [7]) (by kernel_rfl) (by simp) ?_
  refine AllReady.cons rfl (fun K hK => ?_) AllReady.nil
  go_simp
  refine hK _ _ ?_
  clear hK K
  try simp only [List.getElem_toArray, List.getElem_cons_succ, List.getElem_cons_zero, Act.put, List.setIfInBounds_toArray, List.set_cons_zero, List.set_cons_succ]
  refine wpAny_take (i := 8) (v := ?_) rfl (by kernel_rfl) (by kernel_rfl) (by kernel_rfl) (fun _ _ _ h => h) (Or.inl ⟨by rfl, ?_⟩) ?_
  rotate_left
  · intro w; go_simp; try with_reducible rfl
  try simp only [List.getElem_toArray, List.getElem_cons_succ, List.getElem_cons_zero, Act.put, List.setIfInBounds_toArray, List.set_cons_zero, List.set_cons_succ]
  refine wpAny_take (i := 9) (v := ?_) rfl (by kernel_rfl) (by kernel_rfl) (by kernel_rfl) (fun _ _ _ h => h) (Or.inl ⟨by rfl, ?_⟩) ?_
  rotate_left
  · intro w; go_simp; try with_reducible rfl
  try simp only [List.getElem_toArray, List.getElem_cons_succ, List.getElem_cons_zero, Act.put, List.setIfInBounds_toArray, List.set_cons_zero, List.set_cons_succ]
  refine wpAny_done (by kernel_rfl) ?_ _
  go_wp2_with fail
  go_ret
  exact ⟨by rw [← hok.out]; rfl, HB1.out⟩
end Go.Proofs.Ytkcpncngkmnmdaa.outc
