/- The walk of SameWins: the program's. -/
import Derived.Test.YtplhcboecjegjaaOutOf
import Derived.Deep.RegionHeld3
import Derived.Deep.DrawnRows
import Derived.Deep.AppendLies
import Derived.Deep.QuietTactic
import Derived.ChangeKeysEq
import Derived.Laws.StructEq
import Derived.Test.YtplhcboecjegjaaSameS
import Derived.Laws.Rows
namespace Go.Proofs.Ytplhcboecjegjaa.samei
open Go.RowKit own pp nums pv bitw mk wins ownb bitn outc sames
set_option linter.unusedVariables false
attribute [local go_sem ↓] Go.wp_at_zero Go.wp_at_succ
set_option linter.unusedSimpArgs false

theorem bool_items (p p' : Nat → Bool) (n m : Nat) (d : Nat) (w : World) : ∀ (is : List Nat), (∀ i ∈ is, i < 256) →
    (Op.eqItems (d + 1) 4 1 ((oc n p).extract 1 257) ((oc m p').extract 1 257) is).run Try.prog w = .ok (is.all fun k => p k == p' k) w
  | [], _ => by simp [Op.eqItems]
  | i :: is, h => by
    have hi := h i (by simp)
    have g : ∀ (n : Nat) (p : Nat → Bool), ((oc n p).extract 1 257)[i * 1]? = some (.bool (p i)) := fun n p => by
      rw [Nat.mul_one, Array.getElem?_extract, if_pos (by rw [oc_size]; omega)]
      exact oc_at n p i hi
    have hp : Try.prog.plainKey 4 = true := by kernel_rfl
    simp only [Op.eqItems, Sem.run_bind, run_part_plain w hp (g n p), run_part_plain w hp (g m p'), Result.andThen_ok, run_equalIn_bool w d 4 _ _ Try.underlying4]
    cases hx : (p i == p' i)
    · simp [hx]
    · simp only [Bool.not_true, Bool.false_eq_true, if_false, List.all_cons, hx, Bool.true_and]
      exact bool_items p p' n m d w is (fun k hk => h k (by simp [hk]))
theorem oc_fields : (Try.prog.fieldsOf 82).toList.map (fun f => (f.name, f.type, f.offset)) = [("voters", 3, 0), ("wins", 80, 1)] := by kernel_rfl
theorem oc_p80 (n : Nat) (p : Nat → Bool) (w : World) : (part 80 (oc n p) 1).run Try.prog w = .ok (.agg ((oc n p).extract 1 257)) w := by
  simp [part, isAgg, run_underlying Try.underlying80, Try.sizeOf80]
theorem oc_p3 (n : Nat) (p : Nat → Bool) (w : World) : (part 3 (oc n p) 0).run Try.prog w = .ok (.int .i64 (n : Int)) w := run_part_plain w (by kernel_rfl) (oc_zero n p)
theorem oc_items (d n m : Nat) (p p' : Nat → Bool) (w : World) : (Op.equalIn (d + 1 + 1) 80 (.agg ((oc n p).extract 1 257)) (.agg ((oc m p').extract 1 257))).run Try.prog w = .ok ((List.range 256).all fun k => p k == p' k) w := by
  have hcb : Try.prog.cellsOf 4 = 1 := by kernel_rfl
  have hbe : (Try.prog.info? 4).isSome = true := by kernel_rfl
  obtain ⟨ib, hib⟩ := Option.isSome_iff_exists.1 hbe
  have har := run_equalIn_array (P := Try.prog) w (d + 1) ((oc n p).extract 1 257) ((oc m p').extract 1 257) Try.underlying80 hib
  rw [har, hcb, bool_items p p' n m d w (List.range 256) (fun i h => List.mem_range.1 h)]
theorem oc_eq_d (d : Nat) (n m : Nat) (p p' : Nat → Bool) (w : World) : (Op.equalIn (d + 1 + 1 + 1) 82 (.agg (oc n p)) (.agg (oc m p'))).run Try.prog w = .ok (decide (n = m) && (List.range 256).all fun k => p k == p' k) w := by
  have h1 := run_equalIn_struct (P := Try.prog) w (d + 1 + 1) 82 (oc n p) (oc m p') (by kernel_rfl) Try.stoodInHeld82
  rw [h1]
  clear h1
  have hf := oc_fields
  generalize (Try.prog.fieldsOf 82).toList = fs at hf
  obtain ⟨f1, fs, rfl⟩ : ∃ f1 r, fs = f1 :: r := by cases fs with | nil => simp at hf | cons a b => exact ⟨a, b, rfl⟩
  obtain ⟨f2, fs, rfl⟩ : ∃ f2 r, fs = f2 :: r := by cases fs with | nil => simp at hf | cons a b => exact ⟨a, b, rfl⟩
  obtain rfl : fs = [] := by cases fs with | nil => rfl | cons a b => simp at hf
  simp only [List.map_cons, List.map_nil, List.cons.injEq, Prod.mk.injEq, and_true] at hf
  obtain ⟨⟨hn1, ht1, ho1⟩, hn2, ht2, ho2⟩ := hf
  have hnn : ((n : Int) == (m : Int)) = decide (n = m) := by rw [Bool.eq_iff_iff, beq_iff_eq, decide_eq_true_eq]; omega
  have hs1 : ¬ ("voters" = "_") := by decide
  have hs2 : ¬ ("wins" = "_") := by decide
  have q1 := oc_p3 n p w
  have q2 := oc_p3 m p' w
  have q3 := oc_p80 n p w
  have q4 := oc_p80 m p' w
  have q5 := oc_items d n m p p' w
  have q6 := run_equalIn_int (P := Try.prog) w (d + 1) 3 .i64 .i64 n m Try.underlying3
  generalize oc n p = X at *
  generalize oc m p' = Y at *
  generalize X.extract 1 257 = X2 at *
  generalize Y.extract 1 257 = Y2 at *
  generalize (List.range 256).all (fun k => p k == p' k) = r at *
  simp only [hs1, hs2, Op.eqFields, hn1, hn2, ht1, ht2, ho1, ho2, ne_eq, not_false_eq_true, if_true, Sem.run_bind, q1, q2, Result.andThen_ok, q6, hnn]
  generalize decide (n = m) = dd at *
  cases dd
  · rw [if_pos (by rfl), Sem.run_pure, Bool.false_and]
  · rw [if_neg (by simp), Bool.true_and, Sem.run_bind, q3, Result.andThen_ok, Sem.run_bind, q4, Result.andThen_ok, Sem.run_bind, q5, Result.andThen_ok]
    cases r
    · rw [if_pos (by rfl), Sem.run_pure]
    · rw [if_neg (by simp), Sem.run_pure]
theorem oc_eq (n m : Nat) (p p' : Nat → Bool) (w : World) : (Op.equalIn 10000 82 (.agg (oc n p)) (.agg (oc m p'))).run Try.prog w = .ok (decide (n = m) && (List.range 256).all fun k => p k == p' k) w := by
  rw [show (10000 : Nat) = 9997 + 1 + 1 + 1 from rfl]
  exact oc_eq_d 9997 n m p p' w
theorem same_upto {p p' : Nat → Bool} {N : Nat} (hN : N ≤ 256) : ((List.range 256).all fun k => upto p N k == upto p' N k) = sameB p p' N := by
  rw [Bool.eq_iff_iff]
  unfold sameB
  rw [List.all_eq_true, List.all_eq_true]
  constructor
  · intro h k hk
    have hk := List.mem_range.1 hk
    have := h k (List.mem_range.2 (by omega))
    simpa [upto, hk] using this
  · intro h k hk
    by_cases e : k < N
    · have := h k (List.mem_range.2 e)
      simpa [upto, e] using this
    · simp [upto, e]
set_option maxRecDepth 100000 in
set_option maxHeartbeats 4000000 in
theorem impl_no1 (a : Option Addr) (ws : List Int) (c : Nat) (q : Int) (a' : Option Addr) (zs : List Int) (c' : Nat) (q' : Int) (w : World) (hr : ints.Reads .i64 w a ws) (hz : ints.Reads .i64 w a' zs) (hn : ws.length ≤ 1048576) (hm : zs.length ≤ 1048576) {n m : Nat} {p1 p2 : Nat → Bool} {ok2 : Bool} (hd1 : OfV ws q n p1 false) (hd2 : OfV zs q' m p2 ok2) :
    Calls Try.prog 27 #[.agg #[.slice a ws.length c, .int .i64 q], .agg #[.slice a' zs.length c', .int .i64 q']] w (RetBB false false w) := by
  have HOF1 := Lib.hid (fun (wa : World) (hb : Below w.heap.size w wa) => of_data a ws c q wa (hr.below hb) hn hd1)
  have HOF2 := Lib.hid (fun (wa : World) (hb : Below w.heap.size w wa) => of_data a' zs c' q' wa (hz.below hb) hm hd2)
  have h8 := hd1.le
  have h8' := hd2.le
  clear hr hz hd1 hd2
  go_enter Try.func27, Try.ntmps27
  go_wp2_with fail
  have x0_0 : (w.alloc (.cells #[.slice a ws.length c, .int .i64 q] 29)).cell? ⟨w.heap.size, 0, none⟩ = some (.slice a ws.length c) := cell_new _ _ _ (by simp) rfl
  have x0_1 : (w.alloc (.cells #[.slice a ws.length c, .int .i64 q] 29)).cell? ⟨w.heap.size, 1, none⟩ = some (.int .i64 q) := cell_new _ _ _ (by simp) rfl
  have HB0 := Lib.hid (below_alloc w (.cells #[.slice a ws.length c, .int .i64 q] 29))
  replace x0_0 := cell_old (.cells #[.slice a' zs.length c', .int .i64 q'] 29) x0_0
  replace x0_1 := cell_old (.cells #[.slice a' zs.length c', .int .i64 q'] 29) x0_1
  have x1_0 : ((w.alloc (.cells #[.slice a ws.length c, .int .i64 q] 29)).alloc (.cells #[.slice a' zs.length c', .int .i64 q'] 29)).cell? ⟨w.heap.size + 1, 0, none⟩ = some (.slice a' zs.length c') := cell_new _ _ _ (by simp) rfl
  have x1_1 : ((w.alloc (.cells #[.slice a ws.length c, .int .i64 q] 29)).alloc (.cells #[.slice a' zs.length c', .int .i64 q'] 29)).cell? ⟨w.heap.size + 1, 1, none⟩ = some (.int .i64 q') := cell_new _ _ _ (by simp) rfl
  replace HB0 := Lib.hid (HB0.out.alloc (by simp) (.cells #[.slice a' zs.length c', .int .i64 q'] 29))
  have s0 : w.heap.size + 2 ≤ ((w.alloc (.cells #[.slice a ws.length c, .int .i64 q] 29)).alloc (.cells #[.slice a' zs.length c', .int .i64 q'] 29)).heap.size := by simp
  generalize hw : ((w.alloc (.cells #[.slice a ws.length c, .int .i64 q] 29)).alloc (.cells #[.slice a' zs.length c', .int .i64 q'] 29)) = w0 at *
  clear hw
  have n0_0 : w.heap.size < w0.heap.size := by omega
  have n0_1 : w.heap.size + 1 < w0.heap.size := by omega
  refine (HOF1.out _ HB0.out).mono ?_
  rintro e w1 ⟨rfl, hb⟩
  have s1 : w0.heap.size ≤ w1.heap.size := hb.size
  have n1_0 : w.heap.size < w1.heap.size := by omega
  have n1_1 : w.heap.size + 1 < w1.heap.size := by omega
  replace x0_0 := cell_below hb x0_0 (by omega)
  replace x0_1 := cell_below hb x0_1 (by omega)
  replace x1_0 := cell_below hb x1_0 (by omega)
  replace x1_1 := cell_below hb x1_1 (by omega)
  have HB1 := Lib.hid (HB0.out.trans (hb.mono (by omega)))
  clear hb
  go_wp2_with (refine wp_alloc rfl rfl ?_; intro w2 hbx2 hb hz2; refine Hid.out ?_)
  have s2 : w1.heap.size ≤ w2.heap.size := hb.size
  have n2_0 : w.heap.size < w2.heap.size := by omega
  have n2_1 : w.heap.size + 1 < w2.heap.size := by omega
  replace x0_0 := cell_below hb x0_0 (by omega)
  replace x0_1 := cell_below hb x0_1 (by omega)
  replace x1_0 := cell_below hb x1_0 (by omega)
  replace x1_1 := cell_below hb x1_1 (by omega)
  have HB2 := Lib.hid (HB1.out.trans (hb.mono (by omega)))
  clear hb
  refine Lib.hid ?_
  go_wp2_with (refine wp_store rfl _ _ rfl w1.heap.size n (upto p1 (2 ^ n)) rfl rfl 0 no hbx2 ?_; intro w3 hbx3 ho3 hz3; refine Hid.out ?_)
  have hb : Below w1.heap.size w2 w3 := ho3.below (by omega)
  replace x1_0 := cell_below hb x1_0 (by omega)
  replace x1_1 := cell_below hb x1_1 (by omega)
  have HB3 := Lib.hid (HB2.out.trans (hb.mono (by omega)))
  have s3 : w2.heap.size ≤ w3.heap.size := hb.size
  have n3_0 : w1.heap.size < w3.heap.size := by omega
  have n3_1 : w.heap.size + 1 < w3.heap.size := by omega
  clear hb ho3 hbx2 x0_0 x0_1
  refine Lib.hid ?_
  go_wp2_with fail
  refine (HOF2.out _ HB3.out).mono ?_
  rintro e w4 ⟨rfl, hb⟩
  have hbx4 := hbx3.below hb n3_0
  have HB4 := Lib.hid (HB3.out.trans (hb.mono (by omega)))
  have s4 : w3.heap.size ≤ w4.heap.size := hb.size
  clear hb hbx3 x1_0 x1_1
  go_wp2_with (refine wp_alloc rfl rfl ?_; intro w5 hby5 hb hz5; refine Hid.out ?_)
  have hbx5 := hbx4.below hb (by omega)
  have HB5 := Lib.hid (HB4.out.trans (hb.mono (by omega)))
  have s5 : w4.heap.size ≤ w5.heap.size := hb.size
  clear hb hbx4
  refine Lib.hid ?_
  go_wp2_with (refine wp_store rfl _ _ rfl w4.heap.size m (upto p2 (2 ^ m)) rfl rfl 0 no hby5 ?_; intro w6 hby6 ho6 hz6; refine Hid.out ?_)
  have hbx6 := hbx5.only ho6 (by omega)
  have HB6 := Lib.hid (HB5.out.trans ((ho6.below (by omega)).mono (by omega)))
  have s6 : w5.heap.size ≤ w6.heap.size := by omega
  clear ho6 hbx5 hby5
  have cx := hbx6.cell0
  have cy := hby6.cell0
  refine Lib.hid ?_
  go_wp2_with fail
  go_ret2
  exact ⟨rfl, HB6.out⟩
set_option maxRecDepth 100000 in
set_option maxHeartbeats 4000000 in
theorem impl_no2 (a : Option Addr) (ws : List Int) (c : Nat) (q : Int) (a' : Option Addr) (zs : List Int) (c' : Nat) (q' : Int) (w : World) (hr : ints.Reads .i64 w a ws) (hz : ints.Reads .i64 w a' zs) (hn : ws.length ≤ 1048576) (hm : zs.length ≤ 1048576) {n m : Nat} {p1 p2 : Nat → Bool} (hd1 : OfV ws q n p1 true) (hd2 : OfV zs q' m p2 false) :
    Calls Try.prog 27 #[.agg #[.slice a ws.length c, .int .i64 q], .agg #[.slice a' zs.length c', .int .i64 q']] w (RetBB false false w) := by
  have HOF1 := Lib.hid (fun (wa : World) (hb : Below w.heap.size w wa) => of_data a ws c q wa (hr.below hb) hn hd1)
  have HOF2 := Lib.hid (fun (wa : World) (hb : Below w.heap.size w wa) => of_data a' zs c' q' wa (hz.below hb) hm hd2)
  have h8 := hd1.le
  have h8' := hd2.le
  clear hr hz hd1 hd2
  go_enter Try.func27, Try.ntmps27
  go_wp2_with fail
  have x0_0 : (w.alloc (.cells #[.slice a ws.length c, .int .i64 q] 29)).cell? ⟨w.heap.size, 0, none⟩ = some (.slice a ws.length c) := cell_new _ _ _ (by simp) rfl
  have x0_1 : (w.alloc (.cells #[.slice a ws.length c, .int .i64 q] 29)).cell? ⟨w.heap.size, 1, none⟩ = some (.int .i64 q) := cell_new _ _ _ (by simp) rfl
  have HB0 := Lib.hid (below_alloc w (.cells #[.slice a ws.length c, .int .i64 q] 29))
  replace x0_0 := cell_old (.cells #[.slice a' zs.length c', .int .i64 q'] 29) x0_0
  replace x0_1 := cell_old (.cells #[.slice a' zs.length c', .int .i64 q'] 29) x0_1
  have x1_0 : ((w.alloc (.cells #[.slice a ws.length c, .int .i64 q] 29)).alloc (.cells #[.slice a' zs.length c', .int .i64 q'] 29)).cell? ⟨w.heap.size + 1, 0, none⟩ = some (.slice a' zs.length c') := cell_new _ _ _ (by simp) rfl
  have x1_1 : ((w.alloc (.cells #[.slice a ws.length c, .int .i64 q] 29)).alloc (.cells #[.slice a' zs.length c', .int .i64 q'] 29)).cell? ⟨w.heap.size + 1, 1, none⟩ = some (.int .i64 q') := cell_new _ _ _ (by simp) rfl
  replace HB0 := Lib.hid (HB0.out.alloc (by simp) (.cells #[.slice a' zs.length c', .int .i64 q'] 29))
  have s0 : w.heap.size + 2 ≤ ((w.alloc (.cells #[.slice a ws.length c, .int .i64 q] 29)).alloc (.cells #[.slice a' zs.length c', .int .i64 q'] 29)).heap.size := by simp
  generalize hw : ((w.alloc (.cells #[.slice a ws.length c, .int .i64 q] 29)).alloc (.cells #[.slice a' zs.length c', .int .i64 q'] 29)) = w0 at *
  clear hw
  have n0_0 : w.heap.size < w0.heap.size := by omega
  have n0_1 : w.heap.size + 1 < w0.heap.size := by omega
  refine (HOF1.out _ HB0.out).mono ?_
  rintro e w1 ⟨rfl, hb⟩
  have s1 : w0.heap.size ≤ w1.heap.size := hb.size
  have n1_0 : w.heap.size < w1.heap.size := by omega
  have n1_1 : w.heap.size + 1 < w1.heap.size := by omega
  replace x0_0 := cell_below hb x0_0 (by omega)
  replace x0_1 := cell_below hb x0_1 (by omega)
  replace x1_0 := cell_below hb x1_0 (by omega)
  replace x1_1 := cell_below hb x1_1 (by omega)
  have HB1 := Lib.hid (HB0.out.trans (hb.mono (by omega)))
  clear hb
  go_wp2_with (refine wp_alloc rfl rfl ?_; intro w2 hbx2 hb hz2; refine Hid.out ?_)
  have s2 : w1.heap.size ≤ w2.heap.size := hb.size
  have n2_0 : w.heap.size < w2.heap.size := by omega
  have n2_1 : w.heap.size + 1 < w2.heap.size := by omega
  replace x0_0 := cell_below hb x0_0 (by omega)
  replace x0_1 := cell_below hb x0_1 (by omega)
  replace x1_0 := cell_below hb x1_0 (by omega)
  replace x1_1 := cell_below hb x1_1 (by omega)
  have HB2 := Lib.hid (HB1.out.trans (hb.mono (by omega)))
  clear hb
  refine Lib.hid ?_
  go_wp2_with (refine wp_store rfl _ _ rfl w1.heap.size n (upto p1 (2 ^ n)) rfl rfl 0 no hbx2 ?_; intro w3 hbx3 ho3 hz3; refine Hid.out ?_)
  have hb : Below w1.heap.size w2 w3 := ho3.below (by omega)
  replace x1_0 := cell_below hb x1_0 (by omega)
  replace x1_1 := cell_below hb x1_1 (by omega)
  have HB3 := Lib.hid (HB2.out.trans (hb.mono (by omega)))
  have s3 : w2.heap.size ≤ w3.heap.size := hb.size
  have n3_0 : w1.heap.size < w3.heap.size := by omega
  have n3_1 : w.heap.size + 1 < w3.heap.size := by omega
  clear hb ho3 hbx2 x0_0 x0_1
  refine Lib.hid ?_
  go_wp2_with fail
  refine (HOF2.out _ HB3.out).mono ?_
  rintro e w4 ⟨rfl, hb⟩
  have hbx4 := hbx3.below hb n3_0
  have HB4 := Lib.hid (HB3.out.trans (hb.mono (by omega)))
  have s4 : w3.heap.size ≤ w4.heap.size := hb.size
  clear hb hbx3 x1_0 x1_1
  go_wp2_with (refine wp_alloc rfl rfl ?_; intro w5 hby5 hb hz5; refine Hid.out ?_)
  have hbx5 := hbx4.below hb (by omega)
  have HB5 := Lib.hid (HB4.out.trans (hb.mono (by omega)))
  have s5 : w4.heap.size ≤ w5.heap.size := hb.size
  clear hb hbx4
  refine Lib.hid ?_
  go_wp2_with (refine wp_store rfl _ _ rfl w4.heap.size m (upto p2 (2 ^ m)) rfl rfl 0 no hby5 ?_; intro w6 hby6 ho6 hz6; refine Hid.out ?_)
  have hbx6 := hbx5.only ho6 (by omega)
  have HB6 := Lib.hid (HB5.out.trans ((ho6.below (by omega)).mono (by omega)))
  have s6 : w5.heap.size ≤ w6.heap.size := by omega
  clear ho6 hbx5 hby5
  have cx := hbx6.cell0
  have cy := hby6.cell0
  refine Lib.hid ?_
  go_wp2_with fail
  go_ret2
  exact ⟨rfl, HB6.out⟩
set_option maxRecDepth 100000 in
set_option maxHeartbeats 4000000 in
theorem impl_no3 (a : Option Addr) (ws : List Int) (c : Nat) (q : Int) (a' : Option Addr) (zs : List Int) (c' : Nat) (q' : Int) (w : World) (hr : ints.Reads .i64 w a ws) (hz : ints.Reads .i64 w a' zs) (hn : ws.length ≤ 1048576) (hm : zs.length ≤ 1048576) {n m : Nat} {p1 p2 : Nat → Bool} (hd1 : OfV ws q n p1 true) (hd2 : OfV zs q' m p2 true) (hne : ((n : Int) != (m : Int)) = true) :
    Calls Try.prog 27 #[.agg #[.slice a ws.length c, .int .i64 q], .agg #[.slice a' zs.length c', .int .i64 q']] w (RetBB false false w) := by
  have HOF1 := Lib.hid (fun (wa : World) (hb : Below w.heap.size w wa) => of_data a ws c q wa (hr.below hb) hn hd1)
  have HOF2 := Lib.hid (fun (wa : World) (hb : Below w.heap.size w wa) => of_data a' zs c' q' wa (hz.below hb) hm hd2)
  have h8 := hd1.le
  have h8' := hd2.le
  clear hr hz hd1 hd2
  go_enter Try.func27, Try.ntmps27
  go_wp2_with fail
  have x0_0 : (w.alloc (.cells #[.slice a ws.length c, .int .i64 q] 29)).cell? ⟨w.heap.size, 0, none⟩ = some (.slice a ws.length c) := cell_new _ _ _ (by simp) rfl
  have x0_1 : (w.alloc (.cells #[.slice a ws.length c, .int .i64 q] 29)).cell? ⟨w.heap.size, 1, none⟩ = some (.int .i64 q) := cell_new _ _ _ (by simp) rfl
  have HB0 := Lib.hid (below_alloc w (.cells #[.slice a ws.length c, .int .i64 q] 29))
  replace x0_0 := cell_old (.cells #[.slice a' zs.length c', .int .i64 q'] 29) x0_0
  replace x0_1 := cell_old (.cells #[.slice a' zs.length c', .int .i64 q'] 29) x0_1
  have x1_0 : ((w.alloc (.cells #[.slice a ws.length c, .int .i64 q] 29)).alloc (.cells #[.slice a' zs.length c', .int .i64 q'] 29)).cell? ⟨w.heap.size + 1, 0, none⟩ = some (.slice a' zs.length c') := cell_new _ _ _ (by simp) rfl
  have x1_1 : ((w.alloc (.cells #[.slice a ws.length c, .int .i64 q] 29)).alloc (.cells #[.slice a' zs.length c', .int .i64 q'] 29)).cell? ⟨w.heap.size + 1, 1, none⟩ = some (.int .i64 q') := cell_new _ _ _ (by simp) rfl
  replace HB0 := Lib.hid (HB0.out.alloc (by simp) (.cells #[.slice a' zs.length c', .int .i64 q'] 29))
  have s0 : w.heap.size + 2 ≤ ((w.alloc (.cells #[.slice a ws.length c, .int .i64 q] 29)).alloc (.cells #[.slice a' zs.length c', .int .i64 q'] 29)).heap.size := by simp
  generalize hw : ((w.alloc (.cells #[.slice a ws.length c, .int .i64 q] 29)).alloc (.cells #[.slice a' zs.length c', .int .i64 q'] 29)) = w0 at *
  clear hw
  have n0_0 : w.heap.size < w0.heap.size := by omega
  have n0_1 : w.heap.size + 1 < w0.heap.size := by omega
  refine (HOF1.out _ HB0.out).mono ?_
  rintro e w1 ⟨rfl, hb⟩
  have s1 : w0.heap.size ≤ w1.heap.size := hb.size
  have n1_0 : w.heap.size < w1.heap.size := by omega
  have n1_1 : w.heap.size + 1 < w1.heap.size := by omega
  replace x0_0 := cell_below hb x0_0 (by omega)
  replace x0_1 := cell_below hb x0_1 (by omega)
  replace x1_0 := cell_below hb x1_0 (by omega)
  replace x1_1 := cell_below hb x1_1 (by omega)
  have HB1 := Lib.hid (HB0.out.trans (hb.mono (by omega)))
  clear hb
  go_wp2_with (refine wp_alloc rfl rfl ?_; intro w2 hbx2 hb hz2; refine Hid.out ?_)
  have s2 : w1.heap.size ≤ w2.heap.size := hb.size
  have n2_0 : w.heap.size < w2.heap.size := by omega
  have n2_1 : w.heap.size + 1 < w2.heap.size := by omega
  replace x0_0 := cell_below hb x0_0 (by omega)
  replace x0_1 := cell_below hb x0_1 (by omega)
  replace x1_0 := cell_below hb x1_0 (by omega)
  replace x1_1 := cell_below hb x1_1 (by omega)
  have HB2 := Lib.hid (HB1.out.trans (hb.mono (by omega)))
  clear hb
  refine Lib.hid ?_
  go_wp2_with (refine wp_store rfl _ _ rfl w1.heap.size n (upto p1 (2 ^ n)) rfl rfl 0 no hbx2 ?_; intro w3 hbx3 ho3 hz3; refine Hid.out ?_)
  have hb : Below w1.heap.size w2 w3 := ho3.below (by omega)
  replace x1_0 := cell_below hb x1_0 (by omega)
  replace x1_1 := cell_below hb x1_1 (by omega)
  have HB3 := Lib.hid (HB2.out.trans (hb.mono (by omega)))
  have s3 : w2.heap.size ≤ w3.heap.size := hb.size
  have n3_0 : w1.heap.size < w3.heap.size := by omega
  have n3_1 : w.heap.size + 1 < w3.heap.size := by omega
  clear hb ho3 hbx2 x0_0 x0_1
  refine Lib.hid ?_
  go_wp2_with fail
  refine (HOF2.out _ HB3.out).mono ?_
  rintro e w4 ⟨rfl, hb⟩
  have hbx4 := hbx3.below hb n3_0
  have HB4 := Lib.hid (HB3.out.trans (hb.mono (by omega)))
  have s4 : w3.heap.size ≤ w4.heap.size := hb.size
  clear hb hbx3 x1_0 x1_1
  go_wp2_with (refine wp_alloc rfl rfl ?_; intro w5 hby5 hb hz5; refine Hid.out ?_)
  have hbx5 := hbx4.below hb (by omega)
  have HB5 := Lib.hid (HB4.out.trans (hb.mono (by omega)))
  have s5 : w4.heap.size ≤ w5.heap.size := hb.size
  clear hb hbx4
  refine Lib.hid ?_
  go_wp2_with (refine wp_store rfl _ _ rfl w4.heap.size m (upto p2 (2 ^ m)) rfl rfl 0 no hby5 ?_; intro w6 hby6 ho6 hz6; refine Hid.out ?_)
  have hbx6 := hbx5.only ho6 (by omega)
  have HB6 := Lib.hid (HB5.out.trans ((ho6.below (by omega)).mono (by omega)))
  have s6 : w5.heap.size ≤ w6.heap.size := by omega
  clear ho6 hbx5 hby5
  have cx := hbx6.cell0
  have cy := hby6.cell0
  refine Lib.hid ?_
  go_wp2_with fail
  go_ret2
  exact ⟨rfl, HB6.out⟩
set_option maxRecDepth 100000 in
set_option maxHeartbeats 4000000 in
theorem impl_yes (a : Option Addr) (ws : List Int) (c : Nat) (q : Int) (a' : Option Addr) (zs : List Int) (c' : Nat) (q' : Int) (w : World) (hr : ints.Reads .i64 w a ws) (hz : ints.Reads .i64 w a' zs) (hn : ws.length ≤ 1048576) (hm : zs.length ≤ 1048576) {n : Nat} {p1 p2 : Nat → Bool} (hd1 : OfV ws q n p1 true) (hd2 : OfV zs q' n p2 true) :
    Calls Try.prog 27 #[.agg #[.slice a ws.length c, .int .i64 q], .agg #[.slice a' zs.length c', .int .i64 q']] w (RetBB (sameB p1 p2 (2 ^ n)) true w) := by
  have HOF1 := Lib.hid (fun (wa : World) (hb : Below w.heap.size w wa) => of_data a ws c q wa (hr.below hb) hn hd1)
  have HOF2 := Lib.hid (fun (wa : World) (hb : Below w.heap.size w wa) => of_data a' zs c' q' wa (hz.below hb) hm hd2)
  have h8 := hd1.le
  have h8' := hd2.le
  clear hr hz hd1 hd2
  go_enter Try.func27, Try.ntmps27
  go_wp2_with fail
  have x0_0 : (w.alloc (.cells #[.slice a ws.length c, .int .i64 q] 29)).cell? ⟨w.heap.size, 0, none⟩ = some (.slice a ws.length c) := cell_new _ _ _ (by simp) rfl
  have x0_1 : (w.alloc (.cells #[.slice a ws.length c, .int .i64 q] 29)).cell? ⟨w.heap.size, 1, none⟩ = some (.int .i64 q) := cell_new _ _ _ (by simp) rfl
  have HB0 := Lib.hid (below_alloc w (.cells #[.slice a ws.length c, .int .i64 q] 29))
  replace x0_0 := cell_old (.cells #[.slice a' zs.length c', .int .i64 q'] 29) x0_0
  replace x0_1 := cell_old (.cells #[.slice a' zs.length c', .int .i64 q'] 29) x0_1
  have x1_0 : ((w.alloc (.cells #[.slice a ws.length c, .int .i64 q] 29)).alloc (.cells #[.slice a' zs.length c', .int .i64 q'] 29)).cell? ⟨w.heap.size + 1, 0, none⟩ = some (.slice a' zs.length c') := cell_new _ _ _ (by simp) rfl
  have x1_1 : ((w.alloc (.cells #[.slice a ws.length c, .int .i64 q] 29)).alloc (.cells #[.slice a' zs.length c', .int .i64 q'] 29)).cell? ⟨w.heap.size + 1, 1, none⟩ = some (.int .i64 q') := cell_new _ _ _ (by simp) rfl
  replace HB0 := Lib.hid (HB0.out.alloc (by simp) (.cells #[.slice a' zs.length c', .int .i64 q'] 29))
  have s0 : w.heap.size + 2 ≤ ((w.alloc (.cells #[.slice a ws.length c, .int .i64 q] 29)).alloc (.cells #[.slice a' zs.length c', .int .i64 q'] 29)).heap.size := by simp
  generalize hw : ((w.alloc (.cells #[.slice a ws.length c, .int .i64 q] 29)).alloc (.cells #[.slice a' zs.length c', .int .i64 q'] 29)) = w0 at *
  clear hw
  have n0_0 : w.heap.size < w0.heap.size := by omega
  have n0_1 : w.heap.size + 1 < w0.heap.size := by omega
  refine (HOF1.out _ HB0.out).mono ?_
  rintro e w1 ⟨rfl, hb⟩
  have s1 : w0.heap.size ≤ w1.heap.size := hb.size
  have n1_0 : w.heap.size < w1.heap.size := by omega
  have n1_1 : w.heap.size + 1 < w1.heap.size := by omega
  replace x0_0 := cell_below hb x0_0 (by omega)
  replace x0_1 := cell_below hb x0_1 (by omega)
  replace x1_0 := cell_below hb x1_0 (by omega)
  replace x1_1 := cell_below hb x1_1 (by omega)
  have HB1 := Lib.hid (HB0.out.trans (hb.mono (by omega)))
  clear hb
  go_wp2_with (refine wp_alloc rfl rfl ?_; intro w2 hbx2 hb hz2; refine Hid.out ?_)
  have s2 : w1.heap.size ≤ w2.heap.size := hb.size
  have n2_0 : w.heap.size < w2.heap.size := by omega
  have n2_1 : w.heap.size + 1 < w2.heap.size := by omega
  replace x0_0 := cell_below hb x0_0 (by omega)
  replace x0_1 := cell_below hb x0_1 (by omega)
  replace x1_0 := cell_below hb x1_0 (by omega)
  replace x1_1 := cell_below hb x1_1 (by omega)
  have HB2 := Lib.hid (HB1.out.trans (hb.mono (by omega)))
  clear hb
  refine Lib.hid ?_
  go_wp2_with (refine wp_store rfl _ _ rfl w1.heap.size n (upto p1 (2 ^ n)) rfl rfl 0 no hbx2 ?_; intro w3 hbx3 ho3 hz3; refine Hid.out ?_)
  have hb : Below w1.heap.size w2 w3 := ho3.below (by omega)
  replace x1_0 := cell_below hb x1_0 (by omega)
  replace x1_1 := cell_below hb x1_1 (by omega)
  have HB3 := Lib.hid (HB2.out.trans (hb.mono (by omega)))
  have s3 : w2.heap.size ≤ w3.heap.size := hb.size
  have n3_0 : w1.heap.size < w3.heap.size := by omega
  have n3_1 : w.heap.size + 1 < w3.heap.size := by omega
  clear hb ho3 hbx2 x0_0 x0_1
  refine Lib.hid ?_
  go_wp2_with fail
  refine (HOF2.out _ HB3.out).mono ?_
  rintro e w4 ⟨rfl, hb⟩
  have hbx4 := hbx3.below hb n3_0
  have HB4 := Lib.hid (HB3.out.trans (hb.mono (by omega)))
  have s4 : w3.heap.size ≤ w4.heap.size := hb.size
  clear hb hbx3 x1_0 x1_1
  go_wp2_with (refine wp_alloc rfl rfl ?_; intro w5 hby5 hb hz5; refine Hid.out ?_)
  have hbx5 := hbx4.below hb (by omega)
  have HB5 := Lib.hid (HB4.out.trans (hb.mono (by omega)))
  have s5 : w4.heap.size ≤ w5.heap.size := hb.size
  clear hb hbx4
  refine Lib.hid ?_
  go_wp2_with (refine wp_store rfl _ _ rfl w4.heap.size n (upto p2 (2 ^ n)) rfl rfl 0 no hby5 ?_; intro w6 hby6 ho6 hz6; refine Hid.out ?_)
  have hbx6 := hbx5.only ho6 (by omega)
  have HB6 := Lib.hid (HB5.out.trans ((ho6.below (by omega)).mono (by omega)))
  have s6 : w5.heap.size ≤ w6.heap.size := by omega
  clear ho6 hbx5 hby5
  have cx := hbx6.cell0
  have cy := hby6.cell0
  refine Lib.hid ?_
  have HEQ := fun (wz : World) => oc_eq n n (upto p1 (2 ^ n)) (upto p2 (2 ^ n)) wz
  rw [decide_eq_true rfl, Bool.true_and, same_upto (bits8.pow8 h8).2] at HEQ
  generalize sameB p1 p2 (2 ^ n) = ok at *
  generalize upto p1 (2 ^ n) = u1 at *
  generalize upto p2 (2 ^ n) = u2 at *
  have hgn : ((n : Int) != (n : Int)) = false := by simp
  go_wp2_with (first | (refine wp_load rfl _ rfl w1.heap.size n u1 rfl hbx6 ?_) | (refine wp_load rfl _ rfl w4.heap.size n u2 rfl hby6 ?_))
  go_ret2
  exact ⟨rfl, HB6.out⟩
end Go.Proofs.Ytplhcboecjegjaa.samei
