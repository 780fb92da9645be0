/- The walks of ParityNet. -/
import Derived.Test.YtoephhhofkmgjaaMajor
import Derived.Test.YtoephhhofkmgjaaStmp
import Derived.Deep.RegionHeld3
import Derived.Maps.AppendAt
namespace Go.Proofs.Ytoephhhofkmgjaa.parn
open Go.RowKit own pp nums planes netp netb netm evenw own1 repz major stmp
set_option linter.unusedVariables false
set_option linter.unusedSimpArgs false

theorem infoInt2 : (Try.prog.info? 3).map (fun i => (i.zero, i.size, i.bytes)) = some (some (.int .i64 0), 1, 8) := by kernel_rfl
/-- The first k gates that count. -/
def cnt (n k : Nat) : List (List Int × Int) := (List.range k).map fun (i : Nat) => (List.replicate n (1 : Int), (i : Int) + 1)
theorem cnt_length (n k : Nat) : (cnt n k).length = k := by simp [cnt]
theorem cnt_succ (n k : Nat) : cnt n (k + 1) = cnt n k ++ [(List.replicate n (1 : Int), (k : Int) + 1)] := by simp [cnt, List.range_succ]
theorem lays_apart {lo : Nat} {w : World} {u v : Value} {l m : List (List Int × Int)} {cs ds : List Value} (h : OwnK lo w.heap.size w u l cs) (h2 : OwnK lo w.heap.size w v m ds) (hd : ∀ g, FootJ u cs l.length g → ¬ FootJ v ds m.length g) (hl : lo ≤ w.heap.size) :
    OwnL lo (w.heap.size + 1) (w.alloc (.cells #[u, v] 63)) (.slice (some ⟨w.heap.size, 0, none⟩) 2 2) [l, m] := by
  have hL : LaysOf lo w.heap.size w [u, v] [cs, ds] [l, m] := by
    refine ⟨rfl, rfl, fun i hi => ?_, fun i j hij hj => ?_⟩
    · have : i = 0 ∨ i = 1 := by simp at hi; omega
      rcases this with rfl | rfl
      · exact h
      · exact h2
    · obtain ⟨rfl, rfl⟩ : i = 0 ∧ j = 1 := by simp at hj; omega
      exact hd
  exact lays_made hL hl (by omega) (by unfold maxLen; simp)
set_option maxRecDepth 100000 in
set_option maxHeartbeats 1600000 in
theorem spec_par_no (n : Int) (w : World) (h : (decide (1 ≤ n) && decide (n ≤ 4)) = false) :
    Calls Try.prog 36 #[.int .i64 n] w (RetTB [] 0 false w) := by
  have HI := Lib.hid (show (decide (1 ≤ n) && decide (n ≤ 4)) = false from h)
  clear h
  go_enter Try.func36, Try.ntmps36
  obtain ⟨wb1, hw1⟩ : ∃ wb1 : World, wb1 = w.alloc (.cells #[.int .i64 0, .slice none 0 0] 29) := ⟨_, rfl⟩
  have z1 : wb1.heap.size = w.heap.size + 1 := by rw [hw1]; simp
  have x0_0 := (by rw [hw1]; exact cell_new _ _ _ rfl rfl : wb1.cell? ⟨w.heap.size, 0, none⟩ = some (.int .i64 0))
  have x0_1 := (by rw [hw1]; exact cell_new _ _ _ rfl rfl : wb1.cell? ⟨w.heap.size, 1, none⟩ = some (.slice none 0 0))
  have HB0 := Lib.hid (show Below w.heap.size w wb1 by rw [hw1]; exact (Below.refl w.heap.size w).alloc (Nat.le_refl _) _)
  have s1 : w.heap.size + 1 ≤ wb1.heap.size := by omega
  have f0_0 := (by rw [hw1]; exact fro_new _ _ _ rfl : wb1.frozen? ⟨w.heap.size, 0, none⟩ = false)
  have f0_1 := (by rw [hw1]; exact fro_new _ _ _ rfl : wb1.frozen? ⟨w.heap.size, 1, none⟩ = false)
  have HZ1 := Lib.hid z1
  clear z1
  go_wp2_with fail
  rw [← hw1]
  clear hw1
  refine (in_any _ _ _ _ false HI).mono ?_
  rintro e w' ⟨rfl, rfl⟩
  go_wp2_with fail
  refine bodyPost_ret (v := .tuple #[.agg #[.int .i64 0, .slice none 0 0], .bool false]) (by simp [results, Try.results36, go_sem, x0_0, x0_1, f0_0, f0_1]) rfl ⟨_, rfl, ?_, ?_⟩
  · exact OwnL.nil _ _ _
  · exact (HB0.out.setCell (by simp) _).setCell (by simp) _
set_option maxRecDepth 100000 in
set_option maxHeartbeats 1600000 in
theorem impl_par_no (n : Int) (w : World) (h : (decide (1 ≤ n) && decide (n ≤ 4)) = false) :
    Calls Try.prog 37 #[.int .i64 n] w (RetTB [] 0 false w) := by
  have HI := Lib.hid (show (decide (1 ≤ n) && decide (n ≤ 4)) = false from h)
  clear h
  go_enter Try.func37, Try.ntmps37
  obtain ⟨wb1, hw1⟩ : ∃ wb1 : World, wb1 = w.alloc (.cells #[.int .i64 0, .slice none 0 0] 29) := ⟨_, rfl⟩
  have z1 : wb1.heap.size = w.heap.size + 1 := by rw [hw1]; simp
  have x0_0 := (by rw [hw1]; exact cell_new _ _ _ rfl rfl : wb1.cell? ⟨w.heap.size, 0, none⟩ = some (.int .i64 0))
  have x0_1 := (by rw [hw1]; exact cell_new _ _ _ rfl rfl : wb1.cell? ⟨w.heap.size, 1, none⟩ = some (.slice none 0 0))
  have HB0 := Lib.hid (show Below w.heap.size w wb1 by rw [hw1]; exact (Below.refl w.heap.size w).alloc (Nat.le_refl _) _)
  have s1 : w.heap.size + 1 ≤ wb1.heap.size := by omega
  have f0_0 := (by rw [hw1]; exact fro_new _ _ _ rfl : wb1.frozen? ⟨w.heap.size, 0, none⟩ = false)
  have f0_1 := (by rw [hw1]; exact fro_new _ _ _ rfl : wb1.frozen? ⟨w.heap.size, 1, none⟩ = false)
  have HZ1 := Lib.hid z1
  clear z1
  go_wp2_with fail
  rw [← hw1]
  clear hw1
  refine (inputs_any _ _ false HI).mono ?_
  rintro e w' ⟨rfl, rfl⟩
  go_wp2_with fail
  refine bodyPost_ret (v := .tuple #[.agg #[.int .i64 0, .slice none 0 0], .bool false]) (by simp [results, Try.results37, go_sem, x0_0, x0_1, f0_0, f0_1]) rfl ⟨_, rfl, ?_, ?_⟩
  · exact OwnL.nil _ _ _
  · exact (HB0.out.setCell (by simp) _).setCell (by simp) _
set_option maxRecDepth 100000 in
set_option maxHeartbeats 1600000 in
theorem spec_par_yes (n : Nat) (w : World) (h1 : 1 ≤ n) (h4 : n ≤ 4) :
    Calls Try.prog 36 #[.int .i64 n] w (RetTB [cnt n n, [(evenL true n, 1)]] n true w) := by
  obtain ⟨j0, hj, hjz0, hjz1, hjz2⟩ := info_parts infoP
  have HI := Lib.hid (show (decide (1 ≤ (n : Int)) && decide ((n : Int) ≤ 4)) = true by simp; omega)
  go_enter Try.func36, Try.ntmps36
  obtain ⟨wb1, hw1⟩ : ∃ wb1 : World, wb1 = w.alloc (.cells #[.int .i64 0, .slice none 0 0] 29) := ⟨_, rfl⟩
  have z1 : wb1.heap.size = w.heap.size + 1 := by rw [hw1]; simp
  have x0_0 := (by rw [hw1]; exact cell_new _ _ _ rfl rfl : wb1.cell? ⟨w.heap.size, 0, none⟩ = some (.int .i64 0))
  have x0_1 := (by rw [hw1]; exact cell_new _ _ _ rfl rfl : wb1.cell? ⟨w.heap.size, 1, none⟩ = some (.slice none 0 0))
  have HB0 := Lib.hid (show Below w.heap.size w wb1 by rw [hw1]; exact (Below.refl w.heap.size w).alloc (Nat.le_refl _) _)
  have s1 : w.heap.size + 1 ≤ wb1.heap.size := by omega
  have f0_0 := (by rw [hw1]; exact fro_new _ _ _ rfl : wb1.frozen? ⟨w.heap.size, 0, none⟩ = false)
  have f0_1 := (by rw [hw1]; exact fro_new _ _ _ rfl : wb1.frozen? ⟨w.heap.size, 1, none⟩ = false)
  have HZ1 := Lib.hid z1
  clear z1
  go_wp2_with fail
  rw [← hw1]
  clear hw1
  refine (in_any _ _ _ _ true HI).mono ?_
  rintro e w' ⟨rfl, rfl⟩
  go_wp2_with fail
  have hk0 := emptyJ wb1
  have hb0 := below_alloc wb1 (.cells #[] 86)
  have hk0' := hk0.widen (hi' := (wb1.alloc (.cells #[] 86)).heap.size) (Nat.le_refl _) (by simp)
  go_loopw [4, 5] (fun v i wr => ∃ (k : Nat) (cs : List Value), k ≤ n ∧ i = .int .i64 ((k : Int) + 1) ∧ OwnK wb1.heap.size wr.heap.size wr v (cnt n k) cs ∧ Below wb1.heap.size wb1 wr) (fun _ i _ => n + 1 - (intOf i).toNat)
  case atStart => exact ⟨0, [], by omega, rfl, hk0', hb0⟩
  case round =>
    obtain ⟨k, cs, hk, rfl, hown, hbel⟩ := hrel
    clear hk0 hk0' hb0
    have hsz := hbel.size
    replace x0_0 := cell_below hbel x0_0 (by omega)
    replace x0_1 := cell_below hbel x0_1 (by omega)
    replace f0_0 := fro_below hbel f0_0 (by omega)
    replace f0_1 := fro_below hbel f0_1 (by omega)
    have HO := Lib.hid hown
    have HBl := Lib.hid hbel
    clear hown hbel
    by_cases hlt : k < n
    · have HCL := Lib.hid (cnt_length n k)
      have HCS := Lib.hid (cnt_succ n k)
      have i1 : decide ((k : Int) + 1 ≤ (n : Int)) = true := by simp; omega
      go_wp2_with fail
      refine (spec_even_false n wr h4).mono ?_
      rintro e w1 ⟨vw, rfl, hov, hb1⟩
      rw [evenL_false] at hov
      obtain ⟨p1, q1, rfl, _, _, _⟩ := hov.slice
      rw [List.length_replicate] at hov
      have s1' := hb1.size
      have HB3 := Lib.hid (below_alloc w1 (.cells #[.slice p1 n q1, .int .i64 ((k : Int) + 1)] 86))
      have hs3 := HB3.out.size
      have HZ0 := Lib.hid (cell_two_new w1 (.slice p1 n q1) (.int .i64 ((k : Int) + 1)) 86)
      have HX3 := Lib.hid (hb1.trans (HB3.out.mono s1'))
      have hvb := fun g (e : u4.ownBlock = some g) => HO.out.1.lt g e
      have HRO := Lib.hid (ownsRow_block (w' := w1.alloc (.cells #[.slice p1 n q1, .int .i64 ((k : Int) + 1)] 86)) HO.out.1 (fun g hg => HX3.out.block g (hvb g hg).2))
      have HOV := Lib.hid ((hov.below HB3.out).mono (Nat.le_refl _) hs3)
      have hcl : (cnt n k).length ≤ 4 := by rw [cnt_length]; omega
      have HVB := Lib.hid hvb
      clear hov hb1 hvb
      generalize cnt n k = ps at *
      go_wp2_with (at_builtin; refine wpList_append_own _ rfl _ _ 63 rfl wb1.heap.size 86 j0 (.agg #[.slice none 0 0, .int .i64 0]) 2 32 Try.underlying63 hj hjz0 hjz1 hjz2 rfl (by decide) _ _ _ rfl HRO.out ⟨w1.heap.size, 0, none⟩ 1 1 [.slice p1 n q1, .int .i64 ((k : Int) + 1)] rfl rfl HZ0.out (by simp [Value.oneCell']) (by unfold maxLen; omega) (by omega) (by simp; omega) ?_; intro v' w5 hown' hgrow _)
      have HPU := Lib.hid (OwnK.push (b := (k : Int) + 1) HO.out HX3.out (by omega) HOV.out hown' hgrow)
      have HB5 := Lib.hid (show Below wb1.heap.size wb1 w5 from (HBl.out.trans (HX3.out.mono hsz)).grown hgrow (by omega) (fun g e => (HVB.out g e).1))
      clear hown' hgrow
      go_wp2_with fail
      go_roundw
      case rel => exact ⟨k + 1, cs ++ [.slice p1 n q1], by omega, by go_num, by rw [HCS.out]; exact HPU.out, HB5.out⟩
      case measure => simp [intOf]; omega
    · obtain rfl : k = n := by omega
      have i1 : decide ((k : Int) + 1 ≤ (k : Int)) = false := by simp; omega
      have HOJ := Lib.hid (show OwnJ wb1.heap.size wr.heap.size wr u4 (cnt k k) from ⟨cs, HO.out⟩)
      obtain ⟨pc, qc, hvc, _, _, _⟩ := HOJ.out.slice
      rw [cnt_length] at hvc
      subst hvc
      clear HO
      go_wp2_with fail
      refine (spec_even_true k wr h4).mono ?_
      rintro e w2 ⟨v, rfl, ho, hb⟩
      obtain ⟨p2, q2, rfl, _, _, _⟩ := ho.slice
      rw [evenL_length] at ho ⊢
      have s3 := hb.size
      replace x0_0 := cell_below hb x0_0 (by omega)
      replace x0_1 := cell_below hb x0_1 (by omega)
      replace f0_0 := fro_below hb f0_0 (by omega)
      replace f0_1 := fro_below hb f0_1 (by omega)
      have s2 : w.heap.size + 1 ≤ w2.heap.size := by omega
      have HB2 := Lib.hid (HB0.out.trans ((HBl.out.trans (hb.mono hsz)).mono (by omega)))
      have HO2 := Lib.hid ho
      have HOJ2 := Lib.hid (HOJ.out.below hb)
      clear hb ho HBl
      replace x0_0 : ((w2.alloc (.cells #[.slice p2 k q2, .int .i64 1] 86)).alloc (.cells #[.slice pc k qc, .slice (some ⟨w2.heap.size, 0, none⟩) 1 1] 63)).cell? ⟨w.heap.size, 0, none⟩ = some (.int .i64 0) := cell_old _ (cell_old _ x0_0)
      replace x0_1 : ((w2.alloc (.cells #[.slice p2 k q2, .int .i64 1] 86)).alloc (.cells #[.slice pc k qc, .slice (some ⟨w2.heap.size, 0, none⟩) 1 1] 63)).cell? ⟨w.heap.size, 1, none⟩ = some (.slice none 0 0) := cell_old _ (cell_old _ x0_1)
      replace f0_0 : ((w2.alloc (.cells #[.slice p2 k q2, .int .i64 1] 86)).alloc (.cells #[.slice pc k qc, .slice (some ⟨w2.heap.size, 0, none⟩) 1 1] 63)).frozen? ⟨w.heap.size, 0, none⟩ = false := fro_below (below_alloc _ _) (fro_below (below_alloc _ _) f0_0 (by omega)) (by simp; omega)
      replace f0_1 : ((w2.alloc (.cells #[.slice p2 k q2, .int .i64 1] 86)).alloc (.cells #[.slice pc k qc, .slice (some ⟨w2.heap.size, 0, none⟩) 1 1] 63)).frozen? ⟨w.heap.size, 1, none⟩ = false := fro_below (below_alloc _ _) (fro_below (below_alloc _ _) f0_1 (by omega)) (by simp; omega)
      go_wp2_with fail
      refine bodyPost_ret (v := .tuple #[.agg #[.int .i64 k, .slice (some ⟨w2.heap.size + 1, 0, none⟩) 2 2], .bool true]) (by simp [results, Try.results36, go_sem, x0_0, x0_1, f0_0, f0_1]) rfl ⟨_, rfl, ?_, ?_⟩
      · simp only [size_set]
        have hg := gate_made (HO2.out.mono (Nat.le_refl _) (Nat.le_succ _)) 1 (by omega) (Nat.le_refl _)
        have hlw := lays_two ((HOJ2.out.below (below_alloc w2 (.cells #[.slice p2 k q2, .int .i64 1] 86))).mono (Nat.le_refl _) (Nat.le_refl _)) hg (by omega) (by omega) (by simp)
        have hm4 := hlw.set (a := ⟨w.heap.size, 0, none⟩) (by show w.heap.size < _; omega) (.int .i64 k)
        have hm5 := hm4.set (a := ⟨w.heap.size, 1, none⟩) (by show w.heap.size < _; omega) (.slice (some ⟨w2.heap.size + 1, 0, none⟩) 2 2)
        have e9 : (w2.alloc (.cells #[.slice p2 k q2, .int .i64 1] 86)).heap.size = w2.heap.size + 1 := by simp
        rw [e9] at hm5
        exact hm5.mono (by omega) (by simp)
      · exact (((HB2.out.alloc (by omega) _).alloc (by simp; omega) _).setCell (by simp) _).setCell (by simp) _
theorem gate_lit {lo hi : Nat} {w : World} {v : Value} {ws : List Int} (h : OwnI lo hi w v ws) (b : Int) (hl : lo ≤ w.heap.size) (hh : hi ≤ w.heap.size + 1) :
    OwnK lo (w.heap.size + 1) (w.alloc (.cells #[v, .int .i64 b] 86)) (.slice (some ⟨w.heap.size, 0, none⟩) 1 1) [(ws, b)] [v] := by
  have h1 : OwnI lo (w.heap.size + 1) (w.alloc (.cells #[v, .int .i64 b] 86)) v ws := (h.below (below_alloc _ _)).mono (Nat.le_refl _) hh
  refine ⟨?_, fun g hg => ?_, rfl, fun i hi => ?_, fun i j hij hj => ?_⟩
  · exact World.ownsRow_lit (base := lo) (e := 86) (size := 2) w #[v, .int .i64 b] 1 hl (by unfold maxLen; omega) rfl
  · simp [Value.ownBlock] at hg; omega
  · obtain rfl : i = 0 := by simp at hi; omega
    exact h1
  · simp at hj; omega
/-- A list of integers beside planes. -/
def Off (u : Value) (cs : List Value) (n : Nat) : Prop := ∀ g, u.ownBlock = some g → ¬ Blk cs n g
theorem off_snoc {u c : Value} {cs : List Value} {n S : Nat} (h : Off u cs n) (hl : cs.length = n) (hu : ∀ g, u.ownBlock = some g → g < S) (hc : ∀ g, c.ownBlock = some g → S ≤ g) : Off u (cs ++ [c]) (n + 1) := by
  rintro g hg ⟨i, hi, he⟩
  by_cases e : i < n
  · rw [getD_snoc_lt _ _ _ _ (by omega)] at he
    exact h g hg ⟨i, e, he⟩
  · rw [getD_snoc_eq _ _ _ _ (by omega)] at he
    have h1 := hu g hg
    have h2 := hc g he
    omega
theorem keepK {lo hi : Nat} {w w' : World} {v u : Value} {ps : List (List Int × Int)} {cs : List Value} {m : Nat} {xs : List Value} {lo' : Nat} (h : OwnK lo hi w v ps cs) (hu : w.ownsRow lo' 3 1 u m xs) (ho : Off u cs ps.length) (hg : w.grownBy w' u.ownBlock) : OwnK lo hi w' v ps cs := by
  refine h.keep fun g hf => hg.block g (h.foot hf).2.2 fun e => ?_
  rcases hf with hf | hf
  · exact ownsRow_ne h.1 hu (by decide) hf e.symm
  · exact ho g e.symm hf
set_option maxRecDepth 100000 in
set_option maxHeartbeats 4000000 in
theorem impl_par_yes (n : Nat) (w : World) (h1 : 1 ≤ n) (h4 : n ≤ 4) :
    Calls Try.prog 37 #[.int .i64 n] w (RetTB [cnt n n, [(evenL true n, 1)]] n true w) := by
  obtain ⟨j0, hj, hjz0, hjz1, hjz2⟩ := info_parts infoP
  obtain ⟨i0, hi, hz0, hz1, hz2⟩ := info_parts infoInt2
  have HI := Lib.hid (show (decide (1 ≤ (n : Int)) && decide ((n : Int) ≤ 4)) = true by simp; omega)
  go_enter Try.func37, Try.ntmps37
  obtain ⟨wb1, hw1⟩ : ∃ wb1 : World, wb1 = w.alloc (.cells #[.int .i64 0, .slice none 0 0] 29) := ⟨_, rfl⟩
  have z1 : wb1.heap.size = w.heap.size + 1 := by rw [hw1]; simp
  have x0_0 := (by rw [hw1]; exact cell_new _ _ _ rfl rfl : wb1.cell? ⟨w.heap.size, 0, none⟩ = some (.int .i64 0))
  have x0_1 := (by rw [hw1]; exact cell_new _ _ _ rfl rfl : wb1.cell? ⟨w.heap.size, 1, none⟩ = some (.slice none 0 0))
  have HB0 := Lib.hid (show Below w.heap.size w wb1 by rw [hw1]; exact (Below.refl w.heap.size w).alloc (Nat.le_refl _) _)
  have s1 : w.heap.size + 1 ≤ wb1.heap.size := by omega
  have f0_0 := (by rw [hw1]; exact fro_new _ _ _ rfl : wb1.frozen? ⟨w.heap.size, 0, none⟩ = false)
  have f0_1 := (by rw [hw1]; exact fro_new _ _ _ rfl : wb1.frozen? ⟨w.heap.size, 1, none⟩ = false)
  have HZ1 := Lib.hid z1
  clear z1
  go_wp2_with fail
  rw [← hw1]
  clear hw1
  refine (inputs_any _ _ true HI).mono ?_
  rintro e w' ⟨rfl, rfl⟩
  go_wp2_with fail
  have hk0 := emptyJ wb1
  have hb0 := below_alloc wb1 (.cells #[] 86)
  have hk0' := (hk0.keep (w' := (wb1.alloc (.cells #[] 86)).alloc (.cells #[] 3)) fun g hf => (below_alloc _ _).block g (hk0.foot hf).2.2).widen (hi' := ((wb1.alloc (.cells #[] 86)).alloc (.cells #[] 3)).heap.size) (Nat.le_refl _) (by simp)
  have hu0 := World.ownsRow_made (base := wb1.heap.size) (e := 3) (size := 1) (wb1.alloc (.cells #[] 86)) #[] 0 (by simp) (by unfold maxLen; omega) rfl
  go_loopw [4, 5, 14] (fun v u i wr => ∃ (k : Nat) (cs : List Value), k ≤ n ∧ i = .int .i64 k ∧ OwnK wb1.heap.size wr.heap.size wr v (cnt n k) cs ∧ wr.ownsRow wb1.heap.size 3 1 u k ((evenL true k).map (Value.int .i64)) ∧ Off u cs k ∧ Below wb1.heap.size wb1 wr) (fun _ _ i _ => n - (intOf i).toNat)
  case atStart => exact ⟨0, [], by omega, rfl, hk0', by simpa [evenL] using hu0, fun g _ ⟨i, hi, _⟩ => by omega, (below_alloc wb1 _).trans ((below_alloc _ _).mono (by simp))⟩
  case round =>
    obtain ⟨k, cs, hk, rfl, hown, hrow, hoff, hbel⟩ := hrel
    clear hk0 hk0' hb0 hu0
    have hsz := hbel.size
    replace x0_0 := cell_below hbel x0_0 (by omega)
    replace x0_1 := cell_below hbel x0_1 (by omega)
    replace f0_0 := fro_below hbel f0_0 (by omega)
    replace f0_1 := fro_below hbel f0_1 (by omega)
    have HO := Lib.hid hown
    have HRU := Lib.hid hrow
    have HOF := Lib.hid hoff
    have HBl := Lib.hid hbel
    clear hown hbel hrow hoff
    by_cases hlt : k < n
    · have hk4 : k = 0 ∨ k = 1 ∨ k = 2 ∨ k = 3 := by omega
      rcases hk4 with rfl | rfl | rfl | rfl
      · skip
        have HCS := Lib.hid (show cnt n (0 + 1) = cnt n 0 ++ [(List.replicate n (1 : Int), 1)] from cnt_succ n 0)
        have hcl : (cnt n 0).length = 0 := cnt_length n 0
        have HSC := Lib.hid (show (evenL true (0 + 1)).map (Value.int .i64) = (evenL true 0).map (Value.int .i64) ++ [.int .i64 (1)] from by rw [evenL_succ, List.map_append]; rfl)
        have hel : (evenL true 0).length = 0 := evenL_length true 0
        have hba := below_alloc wr (.cells #[.int .i64 1] 3)
        have hsa := hba.size
        go_wp2_with fail
        refine (reps 1 wr.heap.size 0 1 n _ (cell_new _ _ _ rfl rfl) h1 (by omega)).mono ?_
        rintro e w1 ⟨vw, rfl, hov, hb1⟩
        obtain ⟨p1, q1, rfl, _, _, _⟩ := hov.slice
        rw [List.length_replicate] at hov
        have hb1 := hba.trans (hb1.mono hsa)
        have s1' := hb1.size
        have HB3 := Lib.hid (below_alloc w1 (.cells #[.slice p1 n q1, .int .i64 1] 86))
        have hs3 := HB3.out.size
        have HZ0 := Lib.hid (cell_two_new w1 (.slice p1 n q1) (.int .i64 1) 86)
        have HX3 := Lib.hid (hb1.trans (HB3.out.mono s1'))
        have hvb := fun g (e : u4.ownBlock = some g) => HO.out.1.lt g e
        have HRO := Lib.hid (ownsRow_block (w' := w1.alloc (.cells #[.slice p1 n q1, .int .i64 1] 86)) HO.out.1 (fun g hg => HX3.out.block g (hvb g hg).2))
        have HOV := Lib.hid ((hov.mono (lo' := wr.heap.size) (hi' := w1.heap.size) hsa (Nat.le_refl _)).below HB3.out |>.mono (Nat.le_refl _) hs3)
        have HRU3 := Lib.hid (ownsRow_block (w' := w1.alloc (.cells #[.slice p1 n q1, .int .i64 1] 86)) HRU.out (fun g hg => HX3.out.block g (HRU.out.lt g hg).2))
        have HOF1 := Lib.hid (off_snoc (u := u5) (c := .slice p1 n q1) (S := wr.heap.size) HOF.out (by have := HO.out.2.2.1; rw [List.length_map] at this; omega) (fun g hg => (HRU.out.lt g hg).2) (fun g hg => (HOV.out.lt hg).1))
        have HVB := Lib.hid hvb
        have HEL := Lib.hid hel
        clear hov hb1 hvb hba hel
        generalize cnt n 0 = ps at *
        generalize evenL true 0 = es at *
        go_wp2_with (at_builtin; refine wpList_append_own _ rfl _ _ 63 rfl wb1.heap.size 86 j0 (.agg #[.slice none 0 0, .int .i64 0]) 2 32 Try.underlying63 hj hjz0 hjz1 hjz2 rfl (by decide) _ _ _ rfl HRO.out ⟨w1.heap.size, 0, none⟩ 1 1 [.slice p1 n q1, .int .i64 1] rfl rfl HZ0.out (by simp [Value.oneCell']) (by unfold maxLen; omega) (by omega) (by simp; omega) ?_; intro v' w5 hown' hgrow _; refine Hid.out ?_)
        have HPU := Lib.hid (OwnK.push (b := 1) HO.out HX3.out (by omega) HOV.out hown' hgrow)
        have HB5 := Lib.hid (show Below wb1.heap.size wb1 w5 from (HBl.out.trans (HX3.out.mono hsz)).grown hgrow (by omega) (fun g e => (HVB.out g e).1))
        have hs5 := HB5.out.size
        have HRU5 := Lib.hid (ownsRow_block (w' := w5) HRU3.out (fun g hg => hgrow.block g (HRU3.out.lt g hg).2 (fun e => ownsRow_ne HRU3.out HRO.out (by decide) hg e.symm)))
        have hel : es.length ≤ 4 := by rw [HEL.out]; omega
        clear hown' hgrow HRO HRU3 HRU HO
        refine Lib.hid ?_
        go_wp2_with (at_builtin; refine wpList_append_own_at _ rfl _ _ 33 rfl wb1.heap.size 3 i0 (.int .i64 0) 1 8 Try.underlying33 hi hz0 hz1 hz2 rfl (by decide) _ _ _ rfl (HRU5.out.alloc _) ⟨w5.heap.size, 0, none⟩ 1 1 [.int .i64 (1)] rfl rfl (cell_one_new _ _ _) (by simp [Value.oneCell']) (by unfold maxLen; omega) (by omega) (by simp; omega) ?_; intro v6 w6 hown6 hgrow6 _ hat6; refine Hid.out ?_)
        have HK6 := Lib.hid (keepK ((HPU.out.keep (w' := w5.alloc (.cells #[.int .i64 (1)] 3)) fun g hf => (below_alloc _ _).block g (HPU.out.foot hf).2.2)) (HRU5.out.alloc _) (by rw [List.length_append, hcl]; exact HOF1.out) hgrow6)
        have hs6 := hgrow6.size
        have HOF6 := Lib.hid (show Off v6 (cs ++ [.slice p1 n q1]) (0 + 1) from fun g hg => by
          rcases hat6 with h3 | h3
          · rw [h3] at hg; exact HOF1.out g hg
          · rw [h3] at hg
            intro hbk
            have h5 := (HPU.out.foot (g := g) (.inr (by rw [List.length_append, hcl]; exact hbk))).2.2
            simp at hg
            omega)
        have HR6 := Lib.hid hown6
        have HB6 := Lib.hid ((HB5.out.alloc HB5.out.size _).grown hgrow6 (by simp; omega) (fun g e => (HRU5.out.lt g e).1))
        clear hown6 hgrow6 hat6
        refine Lib.hid ?_
        go_wp2_with fail
        go_roundw
        case rel =>
          refine ⟨0 + 1, cs ++ [.slice p1 n q1], by omega, by go_num, ?_, ?_, HOF6.out, HB6.out⟩
          · rw [HCS.out]; exact HK6.out.widen (Nat.le_refl _) (by simp at hs6; omega)
          · rw [HSC.out]; exact HR6.out
        case measure => simp [intOf]; omega
      · skip
        have HCS := Lib.hid (show cnt n (1 + 1) = cnt n 1 ++ [(List.replicate n (1 : Int), 2)] from cnt_succ n 1)
        have hcl : (cnt n 1).length = 1 := cnt_length n 1
        have HSC := Lib.hid (show (evenL true (1 + 1)).map (Value.int .i64) = (evenL true 1).map (Value.int .i64) ++ [.int .i64 (-1)] from by rw [evenL_succ, List.map_append]; rfl)
        have hel : (evenL true 1).length = 1 := evenL_length true 1
        have hba := below_alloc wr (.cells #[.int .i64 1] 3)
        have hsa := hba.size
        go_wp2_with fail
        refine (reps 1 wr.heap.size 0 1 n _ (cell_new _ _ _ rfl rfl) h1 (by omega)).mono ?_
        rintro e w1 ⟨vw, rfl, hov, hb1⟩
        obtain ⟨p1, q1, rfl, _, _, _⟩ := hov.slice
        rw [List.length_replicate] at hov
        have hb1 := hba.trans (hb1.mono hsa)
        have s1' := hb1.size
        have HB3 := Lib.hid (below_alloc w1 (.cells #[.slice p1 n q1, .int .i64 2] 86))
        have hs3 := HB3.out.size
        have HZ0 := Lib.hid (cell_two_new w1 (.slice p1 n q1) (.int .i64 2) 86)
        have HX3 := Lib.hid (hb1.trans (HB3.out.mono s1'))
        have hvb := fun g (e : u4.ownBlock = some g) => HO.out.1.lt g e
        have HRO := Lib.hid (ownsRow_block (w' := w1.alloc (.cells #[.slice p1 n q1, .int .i64 2] 86)) HO.out.1 (fun g hg => HX3.out.block g (hvb g hg).2))
        have HOV := Lib.hid ((hov.mono (lo' := wr.heap.size) (hi' := w1.heap.size) hsa (Nat.le_refl _)).below HB3.out |>.mono (Nat.le_refl _) hs3)
        have HRU3 := Lib.hid (ownsRow_block (w' := w1.alloc (.cells #[.slice p1 n q1, .int .i64 2] 86)) HRU.out (fun g hg => HX3.out.block g (HRU.out.lt g hg).2))
        have HOF1 := Lib.hid (off_snoc (u := u5) (c := .slice p1 n q1) (S := wr.heap.size) HOF.out (by have := HO.out.2.2.1; rw [List.length_map] at this; omega) (fun g hg => (HRU.out.lt g hg).2) (fun g hg => (HOV.out.lt hg).1))
        have HVB := Lib.hid hvb
        have HEL := Lib.hid hel
        clear hov hb1 hvb hba hel
        generalize cnt n 1 = ps at *
        generalize evenL true 1 = es at *
        go_wp2_with (at_builtin; refine wpList_append_own _ rfl _ _ 63 rfl wb1.heap.size 86 j0 (.agg #[.slice none 0 0, .int .i64 0]) 2 32 Try.underlying63 hj hjz0 hjz1 hjz2 rfl (by decide) _ _ _ rfl HRO.out ⟨w1.heap.size, 0, none⟩ 1 1 [.slice p1 n q1, .int .i64 2] rfl rfl HZ0.out (by simp [Value.oneCell']) (by unfold maxLen; omega) (by omega) (by simp; omega) ?_; intro v' w5 hown' hgrow _; refine Hid.out ?_)
        have HPU := Lib.hid (OwnK.push (b := 2) HO.out HX3.out (by omega) HOV.out hown' hgrow)
        have HB5 := Lib.hid (show Below wb1.heap.size wb1 w5 from (HBl.out.trans (HX3.out.mono hsz)).grown hgrow (by omega) (fun g e => (HVB.out g e).1))
        have hs5 := HB5.out.size
        have HRU5 := Lib.hid (ownsRow_block (w' := w5) HRU3.out (fun g hg => hgrow.block g (HRU3.out.lt g hg).2 (fun e => ownsRow_ne HRU3.out HRO.out (by decide) hg e.symm)))
        have hel : es.length ≤ 4 := by rw [HEL.out]; omega
        clear hown' hgrow HRO HRU3 HRU HO
        refine Lib.hid ?_
        go_wp2_with (at_builtin; refine wpList_append_own_at _ rfl _ _ 33 rfl wb1.heap.size 3 i0 (.int .i64 0) 1 8 Try.underlying33 hi hz0 hz1 hz2 rfl (by decide) _ _ _ rfl (HRU5.out.alloc _) ⟨w5.heap.size, 0, none⟩ 1 1 [.int .i64 (-1)] rfl rfl (cell_one_new _ _ _) (by simp [Value.oneCell']) (by unfold maxLen; omega) (by omega) (by simp; omega) ?_; intro v6 w6 hown6 hgrow6 _ hat6; refine Hid.out ?_)
        have HK6 := Lib.hid (keepK ((HPU.out.keep (w' := w5.alloc (.cells #[.int .i64 (-1)] 3)) fun g hf => (below_alloc _ _).block g (HPU.out.foot hf).2.2)) (HRU5.out.alloc _) (by rw [List.length_append, hcl]; exact HOF1.out) hgrow6)
        have hs6 := hgrow6.size
        have HOF6 := Lib.hid (show Off v6 (cs ++ [.slice p1 n q1]) (1 + 1) from fun g hg => by
          rcases hat6 with h3 | h3
          · rw [h3] at hg; exact HOF1.out g hg
          · rw [h3] at hg
            intro hbk
            have h5 := (HPU.out.foot (g := g) (.inr (by rw [List.length_append, hcl]; exact hbk))).2.2
            simp at hg
            omega)
        have HR6 := Lib.hid hown6
        have HB6 := Lib.hid ((HB5.out.alloc HB5.out.size _).grown hgrow6 (by simp; omega) (fun g e => (HRU5.out.lt g e).1))
        clear hown6 hgrow6 hat6
        refine Lib.hid ?_
        go_wp2_with fail
        go_roundw
        case rel =>
          refine ⟨1 + 1, cs ++ [.slice p1 n q1], by omega, by go_num, ?_, ?_, HOF6.out, HB6.out⟩
          · rw [HCS.out]; exact HK6.out.widen (Nat.le_refl _) (by simp at hs6; omega)
          · rw [HSC.out]; exact HR6.out
        case measure => simp [intOf]; omega
      · skip
        have HCS := Lib.hid (show cnt n (2 + 1) = cnt n 2 ++ [(List.replicate n (1 : Int), 3)] from cnt_succ n 2)
        have hcl : (cnt n 2).length = 2 := cnt_length n 2
        have HSC := Lib.hid (show (evenL true (2 + 1)).map (Value.int .i64) = (evenL true 2).map (Value.int .i64) ++ [.int .i64 (1)] from by rw [evenL_succ, List.map_append]; rfl)
        have hel : (evenL true 2).length = 2 := evenL_length true 2
        have hba := below_alloc wr (.cells #[.int .i64 1] 3)
        have hsa := hba.size
        go_wp2_with fail
        refine (reps 1 wr.heap.size 0 1 n _ (cell_new _ _ _ rfl rfl) h1 (by omega)).mono ?_
        rintro e w1 ⟨vw, rfl, hov, hb1⟩
        obtain ⟨p1, q1, rfl, _, _, _⟩ := hov.slice
        rw [List.length_replicate] at hov
        have hb1 := hba.trans (hb1.mono hsa)
        have s1' := hb1.size
        have HB3 := Lib.hid (below_alloc w1 (.cells #[.slice p1 n q1, .int .i64 3] 86))
        have hs3 := HB3.out.size
        have HZ0 := Lib.hid (cell_two_new w1 (.slice p1 n q1) (.int .i64 3) 86)
        have HX3 := Lib.hid (hb1.trans (HB3.out.mono s1'))
        have hvb := fun g (e : u4.ownBlock = some g) => HO.out.1.lt g e
        have HRO := Lib.hid (ownsRow_block (w' := w1.alloc (.cells #[.slice p1 n q1, .int .i64 3] 86)) HO.out.1 (fun g hg => HX3.out.block g (hvb g hg).2))
        have HOV := Lib.hid ((hov.mono (lo' := wr.heap.size) (hi' := w1.heap.size) hsa (Nat.le_refl _)).below HB3.out |>.mono (Nat.le_refl _) hs3)
        have HRU3 := Lib.hid (ownsRow_block (w' := w1.alloc (.cells #[.slice p1 n q1, .int .i64 3] 86)) HRU.out (fun g hg => HX3.out.block g (HRU.out.lt g hg).2))
        have HOF1 := Lib.hid (off_snoc (u := u5) (c := .slice p1 n q1) (S := wr.heap.size) HOF.out (by have := HO.out.2.2.1; rw [List.length_map] at this; omega) (fun g hg => (HRU.out.lt g hg).2) (fun g hg => (HOV.out.lt hg).1))
        have HVB := Lib.hid hvb
        have HEL := Lib.hid hel
        clear hov hb1 hvb hba hel
        generalize cnt n 2 = ps at *
        generalize evenL true 2 = es at *
        go_wp2_with (at_builtin; refine wpList_append_own _ rfl _ _ 63 rfl wb1.heap.size 86 j0 (.agg #[.slice none 0 0, .int .i64 0]) 2 32 Try.underlying63 hj hjz0 hjz1 hjz2 rfl (by decide) _ _ _ rfl HRO.out ⟨w1.heap.size, 0, none⟩ 1 1 [.slice p1 n q1, .int .i64 3] rfl rfl HZ0.out (by simp [Value.oneCell']) (by unfold maxLen; omega) (by omega) (by simp; omega) ?_; intro v' w5 hown' hgrow _; refine Hid.out ?_)
        have HPU := Lib.hid (OwnK.push (b := 3) HO.out HX3.out (by omega) HOV.out hown' hgrow)
        have HB5 := Lib.hid (show Below wb1.heap.size wb1 w5 from (HBl.out.trans (HX3.out.mono hsz)).grown hgrow (by omega) (fun g e => (HVB.out g e).1))
        have hs5 := HB5.out.size
        have HRU5 := Lib.hid (ownsRow_block (w' := w5) HRU3.out (fun g hg => hgrow.block g (HRU3.out.lt g hg).2 (fun e => ownsRow_ne HRU3.out HRO.out (by decide) hg e.symm)))
        have hel : es.length ≤ 4 := by rw [HEL.out]; omega
        clear hown' hgrow HRO HRU3 HRU HO
        refine Lib.hid ?_
        go_wp2_with (at_builtin; refine wpList_append_own_at _ rfl _ _ 33 rfl wb1.heap.size 3 i0 (.int .i64 0) 1 8 Try.underlying33 hi hz0 hz1 hz2 rfl (by decide) _ _ _ rfl (HRU5.out.alloc _) ⟨w5.heap.size, 0, none⟩ 1 1 [.int .i64 (1)] rfl rfl (cell_one_new _ _ _) (by simp [Value.oneCell']) (by unfold maxLen; omega) (by omega) (by simp; omega) ?_; intro v6 w6 hown6 hgrow6 _ hat6; refine Hid.out ?_)
        have HK6 := Lib.hid (keepK ((HPU.out.keep (w' := w5.alloc (.cells #[.int .i64 (1)] 3)) fun g hf => (below_alloc _ _).block g (HPU.out.foot hf).2.2)) (HRU5.out.alloc _) (by rw [List.length_append, hcl]; exact HOF1.out) hgrow6)
        have hs6 := hgrow6.size
        have HOF6 := Lib.hid (show Off v6 (cs ++ [.slice p1 n q1]) (2 + 1) from fun g hg => by
          rcases hat6 with h3 | h3
          · rw [h3] at hg; exact HOF1.out g hg
          · rw [h3] at hg
            intro hbk
            have h5 := (HPU.out.foot (g := g) (.inr (by rw [List.length_append, hcl]; exact hbk))).2.2
            simp at hg
            omega)
        have HR6 := Lib.hid hown6
        have HB6 := Lib.hid ((HB5.out.alloc HB5.out.size _).grown hgrow6 (by simp; omega) (fun g e => (HRU5.out.lt g e).1))
        clear hown6 hgrow6 hat6
        refine Lib.hid ?_
        go_wp2_with fail
        go_roundw
        case rel =>
          refine ⟨2 + 1, cs ++ [.slice p1 n q1], by omega, by go_num, ?_, ?_, HOF6.out, HB6.out⟩
          · rw [HCS.out]; exact HK6.out.widen (Nat.le_refl _) (by simp at hs6; omega)
          · rw [HSC.out]; exact HR6.out
        case measure => simp [intOf]; omega
      · skip
        have HCS := Lib.hid (show cnt n (3 + 1) = cnt n 3 ++ [(List.replicate n (1 : Int), 4)] from cnt_succ n 3)
        have hcl : (cnt n 3).length = 3 := cnt_length n 3
        have HSC := Lib.hid (show (evenL true (3 + 1)).map (Value.int .i64) = (evenL true 3).map (Value.int .i64) ++ [.int .i64 (-1)] from by rw [evenL_succ, List.map_append]; rfl)
        have hel : (evenL true 3).length = 3 := evenL_length true 3
        have hba := below_alloc wr (.cells #[.int .i64 1] 3)
        have hsa := hba.size
        go_wp2_with fail
        refine (reps 1 wr.heap.size 0 1 n _ (cell_new _ _ _ rfl rfl) h1 (by omega)).mono ?_
        rintro e w1 ⟨vw, rfl, hov, hb1⟩
        obtain ⟨p1, q1, rfl, _, _, _⟩ := hov.slice
        rw [List.length_replicate] at hov
        have hb1 := hba.trans (hb1.mono hsa)
        have s1' := hb1.size
        have HB3 := Lib.hid (below_alloc w1 (.cells #[.slice p1 n q1, .int .i64 4] 86))
        have hs3 := HB3.out.size
        have HZ0 := Lib.hid (cell_two_new w1 (.slice p1 n q1) (.int .i64 4) 86)
        have HX3 := Lib.hid (hb1.trans (HB3.out.mono s1'))
        have hvb := fun g (e : u4.ownBlock = some g) => HO.out.1.lt g e
        have HRO := Lib.hid (ownsRow_block (w' := w1.alloc (.cells #[.slice p1 n q1, .int .i64 4] 86)) HO.out.1 (fun g hg => HX3.out.block g (hvb g hg).2))
        have HOV := Lib.hid ((hov.mono (lo' := wr.heap.size) (hi' := w1.heap.size) hsa (Nat.le_refl _)).below HB3.out |>.mono (Nat.le_refl _) hs3)
        have HRU3 := Lib.hid (ownsRow_block (w' := w1.alloc (.cells #[.slice p1 n q1, .int .i64 4] 86)) HRU.out (fun g hg => HX3.out.block g (HRU.out.lt g hg).2))
        have HOF1 := Lib.hid (off_snoc (u := u5) (c := .slice p1 n q1) (S := wr.heap.size) HOF.out (by have := HO.out.2.2.1; rw [List.length_map] at this; omega) (fun g hg => (HRU.out.lt g hg).2) (fun g hg => (HOV.out.lt hg).1))
        have HVB := Lib.hid hvb
        have HEL := Lib.hid hel
        clear hov hb1 hvb hba hel
        generalize cnt n 3 = ps at *
        generalize evenL true 3 = es at *
        go_wp2_with (at_builtin; refine wpList_append_own _ rfl _ _ 63 rfl wb1.heap.size 86 j0 (.agg #[.slice none 0 0, .int .i64 0]) 2 32 Try.underlying63 hj hjz0 hjz1 hjz2 rfl (by decide) _ _ _ rfl HRO.out ⟨w1.heap.size, 0, none⟩ 1 1 [.slice p1 n q1, .int .i64 4] rfl rfl HZ0.out (by simp [Value.oneCell']) (by unfold maxLen; omega) (by omega) (by simp; omega) ?_; intro v' w5 hown' hgrow _; refine Hid.out ?_)
        have HPU := Lib.hid (OwnK.push (b := 4) HO.out HX3.out (by omega) HOV.out hown' hgrow)
        have HB5 := Lib.hid (show Below wb1.heap.size wb1 w5 from (HBl.out.trans (HX3.out.mono hsz)).grown hgrow (by omega) (fun g e => (HVB.out g e).1))
        have hs5 := HB5.out.size
        have HRU5 := Lib.hid (ownsRow_block (w' := w5) HRU3.out (fun g hg => hgrow.block g (HRU3.out.lt g hg).2 (fun e => ownsRow_ne HRU3.out HRO.out (by decide) hg e.symm)))
        have hel : es.length ≤ 4 := by rw [HEL.out]; omega
        clear hown' hgrow HRO HRU3 HRU HO
        refine Lib.hid ?_
        go_wp2_with (at_builtin; refine wpList_append_own_at _ rfl _ _ 33 rfl wb1.heap.size 3 i0 (.int .i64 0) 1 8 Try.underlying33 hi hz0 hz1 hz2 rfl (by decide) _ _ _ rfl (HRU5.out.alloc _) ⟨w5.heap.size, 0, none⟩ 1 1 [.int .i64 (-1)] rfl rfl (cell_one_new _ _ _) (by simp [Value.oneCell']) (by unfold maxLen; omega) (by omega) (by simp; omega) ?_; intro v6 w6 hown6 hgrow6 _ hat6; refine Hid.out ?_)
        have HK6 := Lib.hid (keepK ((HPU.out.keep (w' := w5.alloc (.cells #[.int .i64 (-1)] 3)) fun g hf => (below_alloc _ _).block g (HPU.out.foot hf).2.2)) (HRU5.out.alloc _) (by rw [List.length_append, hcl]; exact HOF1.out) hgrow6)
        have hs6 := hgrow6.size
        have HOF6 := Lib.hid (show Off v6 (cs ++ [.slice p1 n q1]) (3 + 1) from fun g hg => by
          rcases hat6 with h3 | h3
          · rw [h3] at hg; exact HOF1.out g hg
          · rw [h3] at hg
            intro hbk
            have h5 := (HPU.out.foot (g := g) (.inr (by rw [List.length_append, hcl]; exact hbk))).2.2
            simp at hg
            omega)
        have HR6 := Lib.hid hown6
        have HB6 := Lib.hid ((HB5.out.alloc HB5.out.size _).grown hgrow6 (by simp; omega) (fun g e => (HRU5.out.lt g e).1))
        clear hown6 hgrow6 hat6
        refine Lib.hid ?_
        go_wp2_with fail
        go_roundw
        case rel =>
          refine ⟨3 + 1, cs ++ [.slice p1 n q1], by omega, by go_num, ?_, ?_, HOF6.out, HB6.out⟩
          · rw [HCS.out]; exact HK6.out.widen (Nat.le_refl _) (by simp at hs6; omega)
          · rw [HSC.out]; exact HR6.out
        case measure => simp [intOf]; omega
    · obtain rfl : k = n := by omega
      obtain ⟨pc, qc, hvc, _, _, _⟩ := (show OwnJ wb1.heap.size wr.heap.size wr u4 (cnt k k) from ⟨cs, HO.out⟩).slice
      rw [cnt_length] at hvc
      subst hvc
      have hui : OwnI wb1.heap.size wr.heap.size wr u5 (evenL true k) := ⟨by rw [evenL_length]; exact HRU.out, fun g hg => (HRU.out.lt g hg).2⟩
      obtain ⟨pu, qu, hvu, _, _, _⟩ := hui.slice
      rw [evenL_length] at hvu
      subst hvu
      have HUI := Lib.hid hui
      have HB2 := Lib.hid (HB0.out.trans (HBl.out.mono (by omega)))
      have s2 : w.heap.size + 1 ≤ wr.heap.size := by omega
      clear hui HBl
      replace x0_0 : ((wr.alloc (.cells #[.slice pu k qu, .int .i64 1] 86)).alloc (.cells #[.slice pc k qc, .slice (some ⟨wr.heap.size, 0, none⟩) 1 1] 63)).cell? ⟨w.heap.size, 0, none⟩ = some (.int .i64 0) := cell_old _ (cell_old _ x0_0)
      replace x0_1 : ((wr.alloc (.cells #[.slice pu k qu, .int .i64 1] 86)).alloc (.cells #[.slice pc k qc, .slice (some ⟨wr.heap.size, 0, none⟩) 1 1] 63)).cell? ⟨w.heap.size, 1, none⟩ = some (.slice none 0 0) := cell_old _ (cell_old _ x0_1)
      replace f0_0 : ((wr.alloc (.cells #[.slice pu k qu, .int .i64 1] 86)).alloc (.cells #[.slice pc k qc, .slice (some ⟨wr.heap.size, 0, none⟩) 1 1] 63)).frozen? ⟨w.heap.size, 0, none⟩ = false := fro_below (below_alloc _ _) (fro_below (below_alloc _ _) f0_0 (by omega)) (by simp; omega)
      replace f0_1 : ((wr.alloc (.cells #[.slice pu k qu, .int .i64 1] 86)).alloc (.cells #[.slice pc k qc, .slice (some ⟨wr.heap.size, 0, none⟩) 1 1] 63)).frozen? ⟨w.heap.size, 1, none⟩ = false := fro_below (below_alloc _ _) (fro_below (below_alloc _ _) f0_1 (by omega)) (by simp; omega)
      go_wp2_with fail
      refine bodyPost_ret (v := .tuple #[.agg #[.int .i64 k, .slice (some ⟨wr.heap.size + 1, 0, none⟩) 2 2], .bool true]) (by simp [results, Try.results37, go_sem, x0_0, x0_1, f0_0, f0_1]) rfl ⟨_, rfl, ?_, ?_⟩
      · simp only [size_set]
        have e9 : (wr.alloc (.cells #[.slice pu k qu, .int .i64 1] 86)).heap.size = wr.heap.size + 1 := by simp
        have hg := gate_lit (HUI.out.mono (Nat.le_refl _) (Nat.le_succ _)) 1 hsz (Nat.le_refl _)
        have hk9 := (HO.out.keep (w' := wr.alloc (.cells #[.slice pu k qu, .int .i64 1] 86)) fun g hf => (below_alloc _ _).block g (HO.out.foot hf).2.2).widen (Nat.le_refl _) (Nat.le_succ _)
        have hd : ∀ g, FootJ (.slice pc k qc) cs (cnt k k).length g → ¬ FootJ (.slice (some ⟨wr.heap.size, 0, none⟩) 1 1) [.slice pu k qu] [(evenL true k, (1 : Int))].length g := fun g hf hf2 => by
          have h6 := (HO.out.foot hf).2.2
          rcases hf2 with h7 | ⟨i, hi7, h7⟩
          · simp [Value.ownBlock] at h7; omega
          · obtain rfl : i = 0 := by simp at hi7; omega
            rcases hf with h8 | h8
            · exact ownsRow_ne HO.out.1 HRU.out (by decide) h8 h7
            · rw [cnt_length] at h8; exact HOF.out g h7 h8
        rw [show wr.heap.size + 1 = (wr.alloc (.cells #[.slice pu k qu, .int .i64 1] 86)).heap.size from e9.symm] at hg
        have hk9 := hk9.widen (hi' := (wr.alloc (.cells #[.slice pu k qu, .int .i64 1] 86)).heap.size) (Nat.le_refl _) (by rw [e9]; exact Nat.le_refl _)
        have hlw := lays_apart hk9 hg hd (by rw [e9]; omega)
        have hm4 := hlw.set (a := ⟨w.heap.size, 0, none⟩) (by show w.heap.size < _; omega) (.int .i64 k)
        have hm5 := hm4.set (a := ⟨w.heap.size, 1, none⟩) (by show w.heap.size < _; omega) (.slice (some ⟨wr.heap.size + 1, 0, none⟩) 2 2)
        rw [e9] at hm5
        exact hm5.mono (by omega) (by simp)
      · exact (((HB2.out.alloc (by omega) _).alloc (by simp; omega) _).setCell (by simp) _).setCell (by simp) _
end Go.Proofs.Ytoephhhofkmgjaa.parn
