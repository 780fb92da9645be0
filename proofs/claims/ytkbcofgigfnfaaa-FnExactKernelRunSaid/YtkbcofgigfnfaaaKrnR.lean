/- Kernel runs. -/
import Derived.Test.YtkbcofgigfnfaaaKrnT
import Derived.Test.YtkbcofgigfnfaaaRets
import Derived.Deep.RegionHeld3
import Derived.Deep.DrawnRows
namespace Go.Proofs.Ytkbcofgigfnfaaa.krnr
open Go.RowKit own pp nums squares dots kern range fitsp force samplesv samplest cntb mk pwh krnt
set_option linter.unusedVariables false
set_option linter.unusedSimpArgs false

/-- A step of a run at a place: the counts, and how many passes changed nothing. -/
def stp (rows : List (List Int)) (zs : List Int) (n : Int) (st : List Int × Int) (i : Nat) : List Int × Int := if wrongB rows zs st.1 n i = true then (st.1.set i (st.1.getD i 0 + 1), 0) else st
def passTo (rows : List (List Int)) (zs : List Int) (n : Int) (st : List Int × Int) : Nat → List Int × Int
  | 0 => st
  | k + 1 => stp rows zs n (passTo rows zs n st k) k
def runTo (rows : List (List Int)) (zs : List Int) (n : Int) : Nat → List Int × Int
  | 0 => (List.replicate rows.length 0, 0)
  | p + 1 => passTo rows zs n ((runTo rows zs n p).1, (runTo rows zs n p).2 + 1) rows.length
/-- What is known behind k places of a pass p + 1. -/
def InP (rows : List (List Int)) (p k : Nat) (st : List Int × Int) : Prop := st.1.length = rows.length ∧ (∀ j, 0 ≤ st.1.getD j 0 ∧ st.1.getD j 0 ≤ (p : Int) + 1 ∧ (k ≤ j → st.1.getD j 0 ≤ (p : Int))) ∧ 0 ≤ st.2 ∧ st.2 ≤ (p : Int) + 1
theorem getD_set (l : List Int) (i j : Nat) (x : Int) : (l.set i x).getD j 0 = if i = j ∧ i < l.length then x else l.getD j 0 := by
  simp only [List.getD_eq_getElem?_getD, List.getElem?_set]
  by_cases h : i = j
  · subst h
    by_cases h2 : i < l.length
    · simp [h2]
    · simp [h2]
  · simp [h]
theorem stp_in {rows : List (List Int)} {zs : List Int} {n : Int} {p k : Nat} {st : List Int × Int} (h : InP rows p k st) : InP rows p (k + 1) (stp rows zs n st k) := by
  obtain ⟨h1, h2, h3, h4⟩ := h
  unfold stp
  by_cases hw : wrongB rows zs st.1 n k = true
  · rw [if_pos hw]
    refine ⟨by simpa using h1, fun j => ?_, by simp, by simp; omega⟩
    show 0 ≤ (st.1.set k (st.1.getD k 0 + 1)).getD j 0 ∧ (st.1.set k (st.1.getD k 0 + 1)).getD j 0 ≤ (p : Int) + 1 ∧ (k + 1 ≤ j → (st.1.set k (st.1.getD k 0 + 1)).getD j 0 ≤ (p : Int))
    rw [getD_set]
    have hj := h2 j
    have hk := h2 k
    split
    · next h5 => exact ⟨by omega, by have := hk.2.2 (Nat.le_refl _); omega, fun h6 => by omega⟩
    · exact ⟨hj.1, hj.2.1, fun h6 => hj.2.2 (by omega)⟩
  · rw [if_neg hw]
    exact ⟨h1, fun j => ⟨(h2 j).1, (h2 j).2.1, fun h6 => (h2 j).2.2 (by omega)⟩, h3, h4⟩
theorem pass_in {rows : List (List Int)} {zs : List Int} {n : Int} {p : Nat} {st : List Int × Int} (h : InP rows p 0 st) (k : Nat) : InP rows p k (passTo rows zs n st k) := by
  induction k with
  | zero => exact h
  | succ k ih => exact stp_in ih
/-- What is known behind p passes. -/
def InR (rows : List (List Int)) (p : Nat) (st : List Int × Int) : Prop := st.1.length = rows.length ∧ (∀ j, 0 ≤ st.1.getD j 0 ∧ st.1.getD j 0 ≤ (p : Int)) ∧ 0 ≤ st.2 ∧ st.2 ≤ (p : Int)
theorem in_start {rows : List (List Int)} {p : Nat} {st : List Int × Int} (h : InR rows p st) : InP rows p 0 (st.1, st.2 + 1) := by
  obtain ⟨h1, h2, h3, h4⟩ := h
  exact ⟨h1, fun j => ⟨(h2 j).1, by have := (h2 j).2; show st.1.getD j 0 ≤ _; omega, fun _ => (h2 j).2⟩, by show 0 ≤ st.2 + 1; omega, by show st.2 + 1 ≤ _; omega⟩
theorem run_in (rows : List (List Int)) (zs : List Int) (n : Int) (p : Nat) : InR rows p (runTo rows zs n p) := by
  induction p with
  | zero =>
    refine ⟨by simp [runTo], fun j => ?_, by simp [runTo], by simp [runTo]⟩
    show 0 ≤ (List.replicate rows.length (0 : Int)).getD j 0 ∧ (List.replicate rows.length (0 : Int)).getD j 0 ≤ _
    rw [List.getD_eq_getElem?_getD, List.getElem?_replicate]
    split <;> simp
  | succ p ih =>
    have h := pass_in (zs := zs) (n := n) (in_start ih) rows.length
    exact ⟨h.1, fun j => ⟨(h.2.1 j).1, by have := (h.2.1 j).2.1; show (passTo rows zs n _ rows.length).1.getD j 0 ≤ _; omega⟩, h.2.2.1, by have := h.2.2.2; show (passTo rows zs n _ rows.length).2 ≤ _; omega⟩
theorem forced_in {rows : List (List Int)} {zs : List Int} {n : Int} {p k i : Nat} {st : List Int × Int} (h : InP rows p k st) (hp : p ≤ 10) (hs : sampleB rows zs = true) (hd : degB n = true) (hi : i < rows.length) : Forced rows zs st.1 n (rows.getD i []) := by
  refine forced_row ((cntB_iff _ _ _ _).2 ⟨hs, h.1, ?_, hd⟩) i hi
  exact all_true _ 0 _ fun j hj => (inR_iff _ _ _).2 ⟨(h.2.1 j).1, by have := (h.2.1 j).2.1; omega⟩
def krB (rows : List (List Int)) (zs : List Int) (n m : Int) : Bool := sampleB rows zs && degB n && (decide (0 ≤ m) && decide (m ≤ 10))
theorem krB_iff (rows : List (List Int)) (zs : List Int) (n m : Int) : krB rows zs n m = true ↔ sampleB rows zs = true ∧ degB n = true ∧ 0 ≤ m ∧ m ≤ 10 := by simp [krB, and_assoc]
theorem map_set (l : List Int) (i : Nat) (x : Int) : (l.map (Value.int .i64)).set i (.int .i64 x) = (l.set i x).map (Value.int .i64) := by rw [List.map_set]
set_option maxRecDepth 100000 in
set_option maxHeartbeats 1600000 in
theorem spec_run_no (a : Option Addr) (rows : List (List Int)) (c : Nat) (a' : Option Addr) (zs : List Int) (c' : Nat) (n m : Int) (w : World) (hr : grid.Reads w a rows) (hz : ints.Reads .i64 w a' zs) (hn : rows.length ≤ 1048576) (hk : zs.length ≤ 1048576) (hm : ∀ r ∈ rows, r.length ≤ 1048576) (h : krB rows zs n m = false) :
    Calls Try.prog 44 #[.agg #[.slice a rows.length c, .slice a' zs.length c'], .int .i64 n, .int .i64 m] w (RetINB [] 0 false w) := by
  have Hhr := Lib.hid hr
  have Hhz := Lib.hid hz
  have Hhm := Lib.hid hm
  clear hr hz hm
  cases hs : sampleB rows zs
  · have HS := Lib.hid hs
    clear h hs
    go_enter Try.func44, Try.ntmps44
    obtain ⟨wb1, hw1⟩ : ∃ wb1 : World, wb1 = w.alloc (.cells #[.slice a rows.length c, .slice a' zs.length c'] 29) := ⟨_, rfl⟩
    have z1 : wb1.heap.size = w.heap.size + 1 := by rw [hw1]; simp
    have x0_0 := (by rw [hw1]; exact cell_new _ _ _ rfl rfl : wb1.cell? ⟨w.heap.size, 0, none⟩ = some (.slice a rows.length c))
    have x0_1 := (by rw [hw1]; exact cell_new _ _ _ rfl rfl : wb1.cell? ⟨w.heap.size, 1, none⟩ = some (.slice a' zs.length c'))
    have HB0 := Lib.hid (show Below w.heap.size w wb1 by rw [hw1]; exact (Below.refl w.heap.size w).alloc (Nat.le_refl _) _)
    have s1 : w.heap.size + 1 ≤ wb1.heap.size := by omega
    have HZ1 := Lib.hid z1
    clear z1
    go_wp2_with fail
    rw [← hw1]
    clear hw1
    refine (spec_sample a rows c a' zs c' wb1 (Hhr.out.below HB0.out) (Hhz.out.below HB0.out) hn hk Hhm.out false HS).mono ?_
    rintro e' w2 ⟨rfl, hb⟩
    replace x0_0 := cell_below hb x0_0 (by omega)
    replace x0_1 := cell_below hb x0_1 (by omega)
    have s2 := hb.size
    have HB2 := Lib.hid (HB0.out.trans (hb.mono (by omega)))
    clear hb
    go_wp2_with fail
    go_ret3
    exact ⟨_, rfl, (own_empty _).mono HB2.out.size (by simp), HB2.out.alloc HB2.out.size _⟩
  have HS := Lib.hid hs
  cases hd : degB n
  · have HD := Lib.hid hd
    clear h hs hd
    go_enter Try.func44, Try.ntmps44
    obtain ⟨wb1, hw1⟩ : ∃ wb1 : World, wb1 = w.alloc (.cells #[.slice a rows.length c, .slice a' zs.length c'] 29) := ⟨_, rfl⟩
    have z1 : wb1.heap.size = w.heap.size + 1 := by rw [hw1]; simp
    have x0_0 := (by rw [hw1]; exact cell_new _ _ _ rfl rfl : wb1.cell? ⟨w.heap.size, 0, none⟩ = some (.slice a rows.length c))
    have x0_1 := (by rw [hw1]; exact cell_new _ _ _ rfl rfl : wb1.cell? ⟨w.heap.size, 1, none⟩ = some (.slice a' zs.length c'))
    have HB0 := Lib.hid (show Below w.heap.size w wb1 by rw [hw1]; exact (Below.refl w.heap.size w).alloc (Nat.le_refl _) _)
    have s1 : w.heap.size + 1 ≤ wb1.heap.size := by omega
    have HZ1 := Lib.hid z1
    clear z1
    go_wp2_with fail
    rw [← hw1]
    clear hw1
    refine (spec_sample a rows c a' zs c' wb1 (Hhr.out.below HB0.out) (Hhz.out.below HB0.out) hn hk Hhm.out true HS).mono ?_
    rintro e' w2 ⟨rfl, hb⟩
    replace x0_0 := cell_below hb x0_0 (by omega)
    replace x0_1 := cell_below hb x0_1 (by omega)
    have s2 := hb.size
    have HB2 := Lib.hid (HB0.out.trans (hb.mono (by omega)))
    clear hb
    go_wp2_with fail
    refine (kern.spec_deg n _ false HD).mono ?_
    rintro e' w' ⟨rfl, rfl⟩
    go_wp2_with fail
    go_ret3
    exact ⟨_, rfl, (own_empty _).mono HB2.out.size (by simp), HB2.out.alloc HB2.out.size _⟩
  have HD := Lib.hid hd
  have hp : (decide (0 ≤ m) && decide (m ≤ 10)) = false := by rw [← h]; unfold krB; rw [hs, hd]; rfl
  clear h hs hd
  have HP := Lib.hid hp
  clear hp
  go_enter Try.func44, Try.ntmps44
  obtain ⟨wb1, hw1⟩ : ∃ wb1 : World, wb1 = w.alloc (.cells #[.slice a rows.length c, .slice a' zs.length c'] 29) := ⟨_, rfl⟩
  have z1 : wb1.heap.size = w.heap.size + 1 := by rw [hw1]; simp
  have x0_0 := (by rw [hw1]; exact cell_new _ _ _ rfl rfl : wb1.cell? ⟨w.heap.size, 0, none⟩ = some (.slice a rows.length c))
  have x0_1 := (by rw [hw1]; exact cell_new _ _ _ rfl rfl : wb1.cell? ⟨w.heap.size, 1, none⟩ = some (.slice a' zs.length c'))
  have HB0 := Lib.hid (show Below w.heap.size w wb1 by rw [hw1]; exact (Below.refl w.heap.size w).alloc (Nat.le_refl _) _)
  have s1 : w.heap.size + 1 ≤ wb1.heap.size := by omega
  have HZ1 := Lib.hid z1
  clear z1
  go_wp2_with fail
  rw [← hw1]
  clear hw1
  refine (spec_sample a rows c a' zs c' wb1 (Hhr.out.below HB0.out) (Hhz.out.below HB0.out) hn hk Hhm.out true HS).mono ?_
  rintro e' w2 ⟨rfl, hb⟩
  replace x0_0 := cell_below hb x0_0 (by omega)
  replace x0_1 := cell_below hb x0_1 (by omega)
  have s2 := hb.size
  have HB2 := Lib.hid (HB0.out.trans (hb.mono (by omega)))
  clear hb
  go_wp2_with fail
  refine (kern.spec_deg n _ true HD).mono ?_
  rintro e' w' ⟨rfl, rfl⟩
  go_wp2_with fail
  refine (in_any m 0 10 _ false HP).mono ?_
  rintro e' w' ⟨rfl, rfl⟩
  go_wp2_with fail
  go_ret3
  exact ⟨_, rfl, (own_empty _).mono HB2.out.size (by simp), HB2.out.alloc HB2.out.size _⟩
set_option maxRecDepth 100000 in
set_option maxHeartbeats 1600000 in
theorem spec_run_yes (a : Option Addr) (rows : List (List Int)) (c : Nat) (a' : Option Addr) (zs : List Int) (c' : Nat) (n : Int) (m : Nat) (w : World) (hr : grid.Reads w a rows) (hz : ints.Reads .i64 w a' zs) (hn : rows.length ≤ 1048576) (hk : zs.length ≤ 1048576) (hm : ∀ r ∈ rows, r.length ≤ 1048576) (h : krB rows zs n (m : Int) = true) :
    Calls Try.prog 44 #[.agg #[.slice a rows.length c, .slice a' zs.length c'], .int .i64 n, .int .i64 m] w (RetINB (runTo rows zs n m).1 (runTo rows zs n m).2 true w) := by
  obtain ⟨i0, hi, hz0, hz1, hz2⟩ := info_parts mk.infoInt
  have Hhr := Lib.hid hr
  have Hhz := Lib.hid hz
  have Hhm := Lib.hid hm
  clear hr hz hm
  obtain ⟨hs, hd, hm0, hm1⟩ := (krB_iff _ _ _ _).1 h
  have HS := Lib.hid hs
  have HD := Lib.hid hd
  have hl16 := ((sampleB_iff _ _).1 hs).1
  have HP := Lib.hid (show (decide ((0 : Int) ≤ (m : Int)) && decide ((m : Int) ≤ 10)) = true by simp; omega)
  clear h hs hd
  go_enter Try.func44, Try.ntmps44
  obtain ⟨wb1, hw1⟩ : ∃ wb1 : World, wb1 = w.alloc (.cells #[.slice a rows.length c, .slice a' zs.length c'] 29) := ⟨_, rfl⟩
  have z1 : wb1.heap.size = w.heap.size + 1 := by rw [hw1]; simp
  have x0_0 := (by rw [hw1]; exact cell_new _ _ _ rfl rfl : wb1.cell? ⟨w.heap.size, 0, none⟩ = some (.slice a rows.length c))
  have x0_1 := (by rw [hw1]; exact cell_new _ _ _ rfl rfl : wb1.cell? ⟨w.heap.size, 1, none⟩ = some (.slice a' zs.length c'))
  have HB0 := Lib.hid (show Below w.heap.size w wb1 by rw [hw1]; exact (Below.refl w.heap.size w).alloc (Nat.le_refl _) _)
  have s1 : w.heap.size + 1 ≤ wb1.heap.size := by omega
  have HZ1 := Lib.hid z1
  clear z1
  go_wp2_with fail
  rw [← hw1]
  clear hw1
  refine (spec_sample a rows c a' zs c' wb1 (Hhr.out.below HB0.out) (Hhz.out.below HB0.out) hn hk Hhm.out true HS).mono ?_
  rintro e' w2 ⟨rfl, hb⟩
  replace x0_0 := cell_below hb x0_0 (by omega)
  replace x0_1 := cell_below hb x0_1 (by omega)
  have s2 := hb.size
  have HB2 := Lib.hid (HB0.out.trans (hb.mono (by omega)))
  clear hb
  go_wp2_with fail
  refine (kern.spec_deg n _ true HD).mono ?_
  rintro e' w' ⟨rfl, rfl⟩
  go_wp2_with fail
  refine (in_any (m : Int) 0 10 _ true HP).mono ?_
  rintro e' w' ⟨rfl, rfl⟩
  go_wp2_with (refine wpList_make_full _ rfl _ _ 23 rfl w.heap.size 3 i0 (.int .i64 0) 1 Try.underlying23 hi hz0 hz1 .i64 .i64 _ _ rows.length rfl rfl rfl rfl (by rw [hz2]; omega) (by unfold maxLen; omega) (by omega) ?_; intro w4 hown1 hgrow1; refine Hid.out ?_)
  have hb4 : Below w2.heap.size w2 w4 := (Below.refl _ _).grown hgrow1 (Nat.le_refl _) (by simp)
  have s4 := hb4.size
  have hlt4 : w2.heap.size < w4.heap.size := (hown1.lt w2.heap.size rfl).2
  rw [show (Value.int .i64 0).cells = #[Value.int .i64 0] from rfl, Nat.mul_one, toList_madeCells_one, show List.replicate rows.length (Value.int .i64 0) = ((runTo rows zs n 0).1).map (Value.int .i64) from by simp [runTo]] at hown1
  have HO1 := Lib.hid hown1
  replace x0_0 := cell_below hb4 x0_0 (by omega)
  replace x0_1 := cell_below hb4 x0_1 (by omega)
  have HB4 := Lib.hid (HB2.out.trans (hb4.mono HB2.out.size))
  have xx0 := Lib.hid x0_0
  have xx1 := Lib.hid x0_1
  clear hgrow1 hown1 hb4
  refine Lib.hid ?_
  go_wp2_with fail
  go_loopw [10, 11] (fun v i wr => ∃ p : Nat, p ≤ m ∧ i = .int .i64 p ∧ v = .int .i64 (runTo rows zs n p).2 ∧ wr.ownsRow w.heap.size 3 1 (.slice (some ⟨w2.heap.size, 0, none⟩) rows.length rows.length) rows.length (((runTo rows zs n p).1).map (Value.int .i64)) ∧ Below w2.heap.size w4 wr) (fun _ i _ => m - (intOf i).toNat)
  case atStart => exact ⟨0, Nat.zero_le _, rfl, rfl, HO1.out, (Below.refl _ _).mono (by omega)⟩
  case round =>
    obtain ⟨p, hp9, rfl, rfl, hownp, hbelp⟩ := hrel
    have HOP := Lib.hid hownp
    have HBP := Lib.hid hbelp
    have hszp := hbelp.size
    clear hownp hbelp
    obtain ⟨wo, hwo⟩ : ∃ wo, wo = wr := ⟨_, rfl⟩
    subst hwo
    by_cases hltp : p < m
    · have hin := in_start (run_in rows zs n p)
      have HRN := Lib.hid (show runTo rows zs n (p + 1) = passTo rows zs n ((runTo rows zs n p).1, (runTo rows zs n p).2 + 1) rows.length from rfl)
      have hb2 := hin.2.2
      obtain ⟨st0, hst0⟩ : ∃ st0 : List Int × Int, st0 = ((runTo rows zs n p).1, (runTo rows zs n p).2 + 1) := ⟨_, rfl⟩
      have e1 : (runTo rows zs n p).1 = st0.1 := by rw [hst0]
      have e2 : (runTo rows zs n p).2 + 1 = st0.2 := by rw [hst0]
      rw [← hst0] at HRN hin hb2
      rw [e1] at HOP
      have ew : IntKind.i64.wrap ((runTo rows zs n p).2 + 1) = st0.2 := by rw [e2]; exact IntWalk.i64_in _ (by omega)
      have HIN := Lib.hid hin
      clear hst0 e1 e2 hin hb2
      generalize (runTo rows zs n p).2 = calm at *
      obtain ⟨stN, hstN⟩ : ∃ stN, stN = runTo rows zs n (p + 1) := ⟨_, rfl⟩
      rw [← hstN] at HRN
      have HSN := Lib.hid hstN
      clear hstN
      have i2 : (p : Int) < (m : Int) := by omega
      go_wp2_with fail
      go_loopw [10, 12] (fun v i wr => ∃ k : Nat, k ≤ rows.length ∧ i = .int .i64 k ∧ v = .int .i64 (passTo rows zs n st0 k).2 ∧ wr.ownsRow w.heap.size 3 1 (.slice (some ⟨w2.heap.size, 0, none⟩) rows.length rows.length) rows.length (((passTo rows zs n st0 k).1).map (Value.int .i64)) ∧ Below w2.heap.size wo wr) (fun _ i _ => rows.length - (intOf i).toNat)
      case atStart => exact ⟨0, Nat.zero_le _, rfl, rfl, HOP.out, (Below.refl _ _).mono (by omega)⟩
      case round =>
        obtain ⟨k, hk9, rfl, rfl, hown, hbel⟩ := hrel
        have hsz := hbel.size
        have HBl := Lib.hid (HBP.out.trans hbel)
        have HBo := Lib.hid hbel
        have hin := pass_in (zs := zs) (n := n) HIN.out k
        by_cases hlt : k < rows.length
        · have HBB := Lib.hid (HB4.out.trans (HBl.out.mono (by omega)))
          have hz9 := (sample_at HS.out k hlt).2.2
          have hFo := forced_in hin (by omega) HS.out HD.out hlt
          have hcl := hin.1
          have hck := hin.2.1 k
          have HST := Lib.hid (show passTo rows zs n st0 (k + 1) = stp rows zs n (passTo rows zs n st0 k) k from rfl)
          clear hin HOP HIN
          obtain ⟨st, hst⟩ : ∃ st, st = passTo rows zs n st0 k := ⟨_, rfl⟩
          rw [← hst] at hFo hcl hck HST hown ⊢
          clear hst
          obtain ⟨cs, cm⟩ := st
          dsimp only at hFo hcl hck hown ⊢
          have hrc : ints.Reads .i64 wr (some ⟨w2.heap.size, 0, none⟩) cs := (OwnI.of (lo := w.heap.size) (v := .slice (some ⟨w2.heap.size, 0, none⟩) cs.length rows.length) (by rw [hcl]; exact hown)).reads
          have HO := Lib.hid hown
          have y0 := cell_below HBl.out xx0.out (by omega)
          have y1 := cell_below HBl.out xx1.out (by omega)
          have HCL := Lib.hid hcl
          have i3 : (k : Int) < (rows.length : Int) := by omega
          have i4 : (0 : Int) ≤ (k : Int) := by omega
          cases hp : wrongB rows zs cs n k
          · skip
            have HW := Lib.hid (spec_wrong a rows c a' zs c' (some ⟨w2.heap.size, 0, none⟩) cs rows.length n k wr (Hhr.out.below HBB.out) (Hhz.out.below HBB.out) hrc hFo hlt hz9 false (Lib.hid hp))
            rw [hcl] at HW
            have HS1 := Lib.hid (show stp rows zs n (cs, cm) k = (cs, cm) from if_neg (by show ¬ wrongB rows zs cs n k = true; rw [hp]; simp))
            clear hp hFo hcl hrc hown hbel hz9 hck
            go_wp2_with fail
            refine HW.out.mono ?_
            rintro e' w5 ⟨rfl, hb5⟩
            have HO5 := Lib.hid (ownsRow_block (w' := w5) HO.out (fun g hg => hb5.block g (HO.out.lt g hg).2))
            have HB5 := Lib.hid (HBo.out.trans (hb5.mono (by omega)))
            clear hb5
            go_wp2_with fail
            go_roundw
            case rel => exact ⟨k + 1, by omega, by go_num, by rw [HST.out, HS1.out], by rw [HST.out, HS1.out]; exact HO5.out, HB5.out⟩
            case measure => simp [intOf]; omega
          · skip
            have HW := Lib.hid (spec_wrong a rows c a' zs c' (some ⟨w2.heap.size, 0, none⟩) cs rows.length n k wr (Hhr.out.below HBB.out) (Hhz.out.below HBB.out) hrc hFo hlt hz9 true (Lib.hid hp))
            rw [hcl] at HW
            have HS1 := Lib.hid (show stp rows zs n (cs, cm) k = (cs.set k (cs.getD k 0 + 1), 0) from if_pos hp)
            clear hp hFo hcl hrc hown hbel hz9
            have e9 : IntKind.i64.wrap (cs.getD k 0 + 1) = cs.getD k 0 + 1 := IntWalk.i64_in _ (by omega)
            clear hck
            go_wp2_with fail
            refine HW.out.mono ?_
            rintro e' w5 ⟨rfl, hb5⟩
            have ho5 := ownsRow_block (w' := w5) HO.out (fun g hg => hb5.block g (HO.out.lt g hg).2)
            have hcell : w5.cell? ⟨w2.heap.size, k, none⟩ = some (.int .i64 (cs.getD k 0)) := by
              rw [ho5.cellAt k (by omega), List.getElem?_map, List.getElem?_eq_getElem (by have := HCL.out; omega), List.getD_eq_getElem?_getD, List.getElem?_eq_getElem (by have := HCL.out; omega)]; rfl
            have hfro := ho5.frozenAt k
            have hst := (ho5.stored k (.int .i64 (cs.getD k 0 + 1))).1
            rw [map_set] at hst
            have HO5 := Lib.hid hst
            have HB5 := Lib.hid ((HBo.out.trans (hb5.mono (by omega))).setCell (p := ⟨w2.heap.size, k, none⟩) (Nat.le_refl _) (.int .i64 (cs.getD k 0 + 1)))
            clear hb5 hst ho5
            generalize cs.getD k 0 = y at *
            go_wp2_with fail
            go_roundw
            case rel => exact ⟨k + 1, by omega, by go_num, by rw [HST.out, HS1.out], by rw [HST.out, HS1.out]; exact HO5.out, HB5.out⟩
            case measure => simp [intOf]; omega
        · have hke : k = rows.length := by omega
          rw [hke] at hown
          have HF := Lib.hid (show (wr.ownsRow w.heap.size 3 1 (.slice (some ⟨w2.heap.size, 0, none⟩) rows.length rows.length) rows.length ((stN.1).map (Value.int .i64))) ∧ Below w2.heap.size w4 wr from ⟨by rw [HRN.out]; exact hown, HBl.out⟩)
          have i3 : ¬ (k : Int) < (rows.length : Int) := by omega
          have HNX := Lib.hid (show Value.int .i64 (passTo rows zs n st0 k).2 = .int .i64 stN.2 by rw [hke, HRN.out])
          clear hown hbel hin hke HOP HIN
          go_wp2_with fail
          go_roundw
          case rel => exact ⟨p + 1, by omega, by go_num, by rw [← HSN.out]; exact HNX.out, by rw [← HSN.out]; exact HF.out.1, HF.out.2⟩
          case measure => simp [intOf]; omega
    · obtain rfl : p = m := by omega
      have i2 : ¬ (p : Int) < (p : Int) := by omega
      have HF := Lib.hid (show RetINB (runTo rows zs n p).1 (runTo rows zs n p).2 true w (.returned (.tuple #[.slice (some ⟨w2.heap.size, 0, none⟩) rows.length rows.length, .int .i64 (runTo rows zs n p).2, .bool true])) wo from by
        have h1 := (run_in rows zs n p).1
        have h2 : OwnI w.heap.size wo.heap.size wo (.slice (some ⟨w2.heap.size, 0, none⟩) (runTo rows zs n p).1.length rows.length) (runTo rows zs n p).1 := OwnI.of (by rw [h1]; exact HOP.out)
        rw [h1] at h2
        exact ⟨_, rfl, h2, HB4.out.trans (HBP.out.mono (by omega))⟩)
      clear HOP
      generalize runTo rows zs n p = stF at *
      go_wp2_with fail
      go_ret3
      exact HF.out
set_option maxRecDepth 100000 in
set_option maxHeartbeats 1600000 in
theorem impl_run_no (a : Option Addr) (rows : List (List Int)) (c : Nat) (a' : Option Addr) (zs : List Int) (c' : Nat) (n m : Int) (w : World) (hr : grid.Reads w a rows) (hz : ints.Reads .i64 w a' zs) (hn : rows.length ≤ 1048576) (hk : zs.length ≤ 1048576) (hm : ∀ r ∈ rows, r.length ≤ 1048576) (h : krB rows zs n m = false) :
    Calls Try.prog 45 #[.agg #[.slice a rows.length c, .slice a' zs.length c'], .int .i64 n, .int .i64 m] w (RetINB [] 0 false w) := by
  have Hhr := Lib.hid hr
  have Hhz := Lib.hid hz
  have Hhm := Lib.hid hm
  clear hr hz hm
  cases hs : sampleB rows zs
  · have HS := Lib.hid hs
    clear h hs
    go_enter Try.func45, Try.ntmps45
    obtain ⟨wb1, hw1⟩ : ∃ wb1 : World, wb1 = w.alloc (.cells #[.slice a rows.length c, .slice a' zs.length c'] 29) := ⟨_, rfl⟩
    have z1 : wb1.heap.size = w.heap.size + 1 := by rw [hw1]; simp
    have x0_0 := (by rw [hw1]; exact cell_new _ _ _ rfl rfl : wb1.cell? ⟨w.heap.size, 0, none⟩ = some (.slice a rows.length c))
    have x0_1 := (by rw [hw1]; exact cell_new _ _ _ rfl rfl : wb1.cell? ⟨w.heap.size, 1, none⟩ = some (.slice a' zs.length c'))
    have HB0 := Lib.hid (show Below w.heap.size w wb1 by rw [hw1]; exact (Below.refl w.heap.size w).alloc (Nat.le_refl _) _)
    have s1 : w.heap.size + 1 ≤ wb1.heap.size := by omega
    have HZ1 := Lib.hid z1
    clear z1
    go_wp2_with fail
    rw [← hw1]
    clear hw1
    refine (impl_sample a rows c a' zs c' wb1 (Hhr.out.below HB0.out) (Hhz.out.below HB0.out) hn hk Hhm.out false HS).mono ?_
    rintro e' w2 ⟨rfl, hb⟩
    replace x0_0 := cell_below hb x0_0 (by omega)
    replace x0_1 := cell_below hb x0_1 (by omega)
    have s2 := hb.size
    have HB2 := Lib.hid (HB0.out.trans (hb.mono (by omega)))
    clear hb
    go_wp2_with fail
    go_ret3
    exact ⟨_, rfl, (own_empty _).mono HB2.out.size (by simp), HB2.out.alloc HB2.out.size _⟩
  have HS := Lib.hid hs
  cases hd : degB n
  · have HD := Lib.hid hd
    clear h hs hd
    go_enter Try.func45, Try.ntmps45
    obtain ⟨wb1, hw1⟩ : ∃ wb1 : World, wb1 = w.alloc (.cells #[.slice a rows.length c, .slice a' zs.length c'] 29) := ⟨_, rfl⟩
    have z1 : wb1.heap.size = w.heap.size + 1 := by rw [hw1]; simp
    have x0_0 := (by rw [hw1]; exact cell_new _ _ _ rfl rfl : wb1.cell? ⟨w.heap.size, 0, none⟩ = some (.slice a rows.length c))
    have x0_1 := (by rw [hw1]; exact cell_new _ _ _ rfl rfl : wb1.cell? ⟨w.heap.size, 1, none⟩ = some (.slice a' zs.length c'))
    have HB0 := Lib.hid (show Below w.heap.size w wb1 by rw [hw1]; exact (Below.refl w.heap.size w).alloc (Nat.le_refl _) _)
    have s1 : w.heap.size + 1 ≤ wb1.heap.size := by omega
    have HZ1 := Lib.hid z1
    clear z1
    go_wp2_with fail
    rw [← hw1]
    clear hw1
    refine (impl_sample a rows c a' zs c' wb1 (Hhr.out.below HB0.out) (Hhz.out.below HB0.out) hn hk Hhm.out true HS).mono ?_
    rintro e' w2 ⟨rfl, hb⟩
    replace x0_0 := cell_below hb x0_0 (by omega)
    replace x0_1 := cell_below hb x0_1 (by omega)
    have s2 := hb.size
    have HB2 := Lib.hid (HB0.out.trans (hb.mono (by omega)))
    clear hb
    go_wp2_with fail
    refine (kern.impl_deg n _ false HD).mono ?_
    rintro e' w' ⟨rfl, rfl⟩
    go_wp2_with fail
    go_ret3
    exact ⟨_, rfl, (own_empty _).mono HB2.out.size (by simp), HB2.out.alloc HB2.out.size _⟩
  have HD := Lib.hid hd
  have hp : (decide (0 ≤ m) && decide (m ≤ 10)) = false := by rw [← h]; unfold krB; rw [hs, hd]; rfl
  clear h hs hd
  by_cases h0 : m < 0
  · have g0 : decide (m < 0) = true := by simpa using h0
    clear hp
    go_enter Try.func45, Try.ntmps45
    obtain ⟨wb1, hw1⟩ : ∃ wb1 : World, wb1 = w.alloc (.cells #[.slice a rows.length c, .slice a' zs.length c'] 29) := ⟨_, rfl⟩
    have z1 : wb1.heap.size = w.heap.size + 1 := by rw [hw1]; simp
    have x0_0 := (by rw [hw1]; exact cell_new _ _ _ rfl rfl : wb1.cell? ⟨w.heap.size, 0, none⟩ = some (.slice a rows.length c))
    have x0_1 := (by rw [hw1]; exact cell_new _ _ _ rfl rfl : wb1.cell? ⟨w.heap.size, 1, none⟩ = some (.slice a' zs.length c'))
    have HB0 := Lib.hid (show Below w.heap.size w wb1 by rw [hw1]; exact (Below.refl w.heap.size w).alloc (Nat.le_refl _) _)
    have s1 : w.heap.size + 1 ≤ wb1.heap.size := by omega
    have HZ1 := Lib.hid z1
    clear z1
    go_wp2_with fail
    rw [← hw1]
    clear hw1
    refine (impl_sample a rows c a' zs c' wb1 (Hhr.out.below HB0.out) (Hhz.out.below HB0.out) hn hk Hhm.out true HS).mono ?_
    rintro e' w2 ⟨rfl, hb⟩
    replace x0_0 := cell_below hb x0_0 (by omega)
    replace x0_1 := cell_below hb x0_1 (by omega)
    have s2 := hb.size
    have HB2 := Lib.hid (HB0.out.trans (hb.mono (by omega)))
    clear hb
    go_wp2_with fail
    refine (kern.impl_deg n _ true HD).mono ?_
    rintro e' w' ⟨rfl, rfl⟩
    go_wp2_with fail
    go_ret3
    exact ⟨_, rfl, (own_empty _).mono HB2.out.size (by simp), HB2.out.alloc HB2.out.size _⟩
  · have g0 : decide (m < 0) = false := by simpa using h0
    have g1 : decide (10 < m) = true := by simp at hp ⊢; exact hp (by omega)
    clear hp h0
    go_enter Try.func45, Try.ntmps45
    obtain ⟨wb1, hw1⟩ : ∃ wb1 : World, wb1 = w.alloc (.cells #[.slice a rows.length c, .slice a' zs.length c'] 29) := ⟨_, rfl⟩
    have z1 : wb1.heap.size = w.heap.size + 1 := by rw [hw1]; simp
    have x0_0 := (by rw [hw1]; exact cell_new _ _ _ rfl rfl : wb1.cell? ⟨w.heap.size, 0, none⟩ = some (.slice a rows.length c))
    have x0_1 := (by rw [hw1]; exact cell_new _ _ _ rfl rfl : wb1.cell? ⟨w.heap.size, 1, none⟩ = some (.slice a' zs.length c'))
    have HB0 := Lib.hid (show Below w.heap.size w wb1 by rw [hw1]; exact (Below.refl w.heap.size w).alloc (Nat.le_refl _) _)
    have s1 : w.heap.size + 1 ≤ wb1.heap.size := by omega
    have HZ1 := Lib.hid z1
    clear z1
    go_wp2_with fail
    rw [← hw1]
    clear hw1
    refine (impl_sample a rows c a' zs c' wb1 (Hhr.out.below HB0.out) (Hhz.out.below HB0.out) hn hk Hhm.out true HS).mono ?_
    rintro e' w2 ⟨rfl, hb⟩
    replace x0_0 := cell_below hb x0_0 (by omega)
    replace x0_1 := cell_below hb x0_1 (by omega)
    have s2 := hb.size
    have HB2 := Lib.hid (HB0.out.trans (hb.mono (by omega)))
    clear hb
    go_wp2_with fail
    refine (kern.impl_deg n _ true HD).mono ?_
    rintro e' w' ⟨rfl, rfl⟩
    go_wp2_with fail
    go_ret3
    exact ⟨_, rfl, (own_empty _).mono HB2.out.size (by simp), HB2.out.alloc HB2.out.size _⟩
set_option maxRecDepth 100000 in
set_option maxHeartbeats 1600000 in
theorem impl_run_yes (a : Option Addr) (rows : List (List Int)) (c : Nat) (a' : Option Addr) (zs : List Int) (c' : Nat) (n : Int) (m : Nat) (w : World) (hr : grid.Reads w a rows) (hz : ints.Reads .i64 w a' zs) (hn : rows.length ≤ 1048576) (hk : zs.length ≤ 1048576) (hm : ∀ r ∈ rows, r.length ≤ 1048576) (h : krB rows zs n (m : Int) = true) :
    Calls Try.prog 45 #[.agg #[.slice a rows.length c, .slice a' zs.length c'], .int .i64 n, .int .i64 m] w (RetINB (runTo rows zs n m).1 (runTo rows zs n m).2 true w) := by
  obtain ⟨i0, hi, hz0, hz1, hz2⟩ := info_parts mk.infoInt
  have Hhr := Lib.hid hr
  have Hhz := Lib.hid hz
  have Hhm := Lib.hid hm
  clear hr hz hm
  obtain ⟨hs, hd, hm0, hm1⟩ := (krB_iff _ _ _ _).1 h
  have HS := Lib.hid hs
  have HD := Lib.hid hd
  have hl16 := ((sampleB_iff _ _).1 hs).1
  have g0 : decide ((m : Int) < 0) = false := by first | (simp; done) | (simp; omega)
  have g1 : decide ((10 : Int) < (m : Int)) = false := by simp; omega
  clear h hs hd
  go_enter Try.func45, Try.ntmps45
  obtain ⟨wb1, hw1⟩ : ∃ wb1 : World, wb1 = w.alloc (.cells #[.slice a rows.length c, .slice a' zs.length c'] 29) := ⟨_, rfl⟩
  have z1 : wb1.heap.size = w.heap.size + 1 := by rw [hw1]; simp
  have x0_0 := (by rw [hw1]; exact cell_new _ _ _ rfl rfl : wb1.cell? ⟨w.heap.size, 0, none⟩ = some (.slice a rows.length c))
  have x0_1 := (by rw [hw1]; exact cell_new _ _ _ rfl rfl : wb1.cell? ⟨w.heap.size, 1, none⟩ = some (.slice a' zs.length c'))
  have HB0 := Lib.hid (show Below w.heap.size w wb1 by rw [hw1]; exact (Below.refl w.heap.size w).alloc (Nat.le_refl _) _)
  have s1 : w.heap.size + 1 ≤ wb1.heap.size := by omega
  have HZ1 := Lib.hid z1
  clear z1
  go_wp2_with fail
  rw [← hw1]
  clear hw1
  refine (impl_sample a rows c a' zs c' wb1 (Hhr.out.below HB0.out) (Hhz.out.below HB0.out) hn hk Hhm.out true HS).mono ?_
  rintro e' w2 ⟨rfl, hb⟩
  replace x0_0 := cell_below hb x0_0 (by omega)
  replace x0_1 := cell_below hb x0_1 (by omega)
  have s2 := hb.size
  have HB2 := Lib.hid (HB0.out.trans (hb.mono (by omega)))
  clear hb
  go_wp2_with fail
  refine (kern.impl_deg n _ true HD).mono ?_
  rintro e' w' ⟨rfl, rfl⟩
  go_wp2_with (refine wpList_make_full _ rfl _ _ 23 rfl w.heap.size 3 i0 (.int .i64 0) 1 Try.underlying23 hi hz0 hz1 .i64 .i64 _ _ rows.length rfl rfl rfl rfl (by rw [hz2]; omega) (by unfold maxLen; omega) (by omega) ?_; intro w4 hown1 hgrow1; refine Hid.out ?_)
  have hb4 : Below w2.heap.size w2 w4 := (Below.refl _ _).grown hgrow1 (Nat.le_refl _) (by simp)
  have s4 := hb4.size
  have hlt4 : w2.heap.size < w4.heap.size := (hown1.lt w2.heap.size rfl).2
  rw [show (Value.int .i64 0).cells = #[Value.int .i64 0] from rfl, Nat.mul_one, toList_madeCells_one, show List.replicate rows.length (Value.int .i64 0) = ((runTo rows zs n 0).1).map (Value.int .i64) from by simp [runTo]] at hown1
  have HO1 := Lib.hid hown1
  replace x0_0 := cell_below hb4 x0_0 (by omega)
  replace x0_1 := cell_below hb4 x0_1 (by omega)
  have HB4 := Lib.hid (HB2.out.trans (hb4.mono HB2.out.size))
  have xx0 := Lib.hid x0_0
  have xx1 := Lib.hid x0_1
  clear hgrow1 hown1 hb4
  refine Lib.hid ?_
  go_wp2_with fail
  go_loopw [10, 34] (fun v i wr => ∃ p : Nat, p ≤ m ∧ i = .int .i64 p ∧ v = .int .i64 (runTo rows zs n p).2 ∧ wr.ownsRow w.heap.size 3 1 (.slice (some ⟨w2.heap.size, 0, none⟩) rows.length rows.length) rows.length (((runTo rows zs n p).1).map (Value.int .i64)) ∧ Below w2.heap.size w4 wr) (fun _ i _ => m - (intOf i).toNat)
  case atStart => exact ⟨0, Nat.zero_le _, rfl, rfl, HO1.out, (Below.refl _ _).mono (by omega)⟩
  case round =>
    obtain ⟨p, hp9, rfl, rfl, hownp, hbelp⟩ := hrel
    have HOP := Lib.hid hownp
    have HBP := Lib.hid hbelp
    have hszp := hbelp.size
    clear hownp hbelp
    obtain ⟨wo, hwo⟩ : ∃ wo, wo = wr := ⟨_, rfl⟩
    subst hwo
    by_cases hltp : p < m
    · have hin := in_start (run_in rows zs n p)
      have HRN := Lib.hid (show runTo rows zs n (p + 1) = passTo rows zs n ((runTo rows zs n p).1, (runTo rows zs n p).2 + 1) rows.length from rfl)
      have hb2 := hin.2.2
      obtain ⟨st0, hst0⟩ : ∃ st0 : List Int × Int, st0 = ((runTo rows zs n p).1, (runTo rows zs n p).2 + 1) := ⟨_, rfl⟩
      have e1 : (runTo rows zs n p).1 = st0.1 := by rw [hst0]
      have e2 : (runTo rows zs n p).2 + 1 = st0.2 := by rw [hst0]
      rw [← hst0] at HRN hin hb2
      rw [e1] at HOP
      have ew : IntKind.i64.wrap ((runTo rows zs n p).2 + 1) = st0.2 := by rw [e2]; exact IntWalk.i64_in _ (by omega)
      have HIN := Lib.hid hin
      clear hst0 e1 e2 hin hb2
      generalize (runTo rows zs n p).2 = calm at *
      obtain ⟨stN, hstN⟩ : ∃ stN, stN = runTo rows zs n (p + 1) := ⟨_, rfl⟩
      rw [← hstN] at HRN
      have HSN := Lib.hid hstN
      clear hstN
      have i2 : (p : Int) < (m : Int) := by omega
      go_wp2_with fail
      go_loopw [10, 40] (fun v i wr => ∃ k : Nat, k ≤ rows.length ∧ i = .int .i64 k ∧ v = .int .i64 (passTo rows zs n st0 k).2 ∧ wr.ownsRow w.heap.size 3 1 (.slice (some ⟨w2.heap.size, 0, none⟩) rows.length rows.length) rows.length (((passTo rows zs n st0 k).1).map (Value.int .i64)) ∧ Below w2.heap.size wo wr) (fun _ i _ => rows.length - (intOf i).toNat)
      case atStart => exact ⟨0, Nat.zero_le _, rfl, rfl, HOP.out, (Below.refl _ _).mono (by omega)⟩
      case round =>
        obtain ⟨k, hk9, rfl, rfl, hown, hbel⟩ := hrel
        have hsz := hbel.size
        have HBl := Lib.hid (HBP.out.trans hbel)
        have HBo := Lib.hid hbel
        have hin := pass_in (zs := zs) (n := n) HIN.out k
        by_cases hlt : k < rows.length
        · have HBB := Lib.hid (HB4.out.trans (HBl.out.mono (by omega)))
          have hz9 := (sample_at HS.out k hlt).2.2
          have hFo := forced_in hin (by omega) HS.out HD.out hlt
          have hcl := hin.1
          have hck := hin.2.1 k
          have HST := Lib.hid (show passTo rows zs n st0 (k + 1) = stp rows zs n (passTo rows zs n st0 k) k from rfl)
          clear hin HOP HIN
          obtain ⟨st, hst⟩ : ∃ st, st = passTo rows zs n st0 k := ⟨_, rfl⟩
          rw [← hst] at hFo hcl hck HST hown ⊢
          clear hst
          obtain ⟨cs, cm⟩ := st
          dsimp only at hFo hcl hck hown ⊢
          have hrc : ints.Reads .i64 wr (some ⟨w2.heap.size, 0, none⟩) cs := (OwnI.of (lo := w.heap.size) (v := .slice (some ⟨w2.heap.size, 0, none⟩) cs.length rows.length) (by rw [hcl]; exact hown)).reads
          have HO := Lib.hid hown
          have y0 := cell_below HBl.out xx0.out (by omega)
          have y1 := cell_below HBl.out xx1.out (by omega)
          have HCL := Lib.hid hcl
          have i3 : (k : Int) < (rows.length : Int) := by omega
          have i4 : (0 : Int) ≤ (k : Int) := by omega
          cases hp : wrongB rows zs cs n k
          · skip
            have HW := Lib.hid (impl_wrong a rows c a' zs c' (some ⟨w2.heap.size, 0, none⟩) cs rows.length n k wr (Hhr.out.below HBB.out) (Hhz.out.below HBB.out) hrc hFo hlt hz9 false (Lib.hid hp))
            rw [hcl] at HW
            have HS1 := Lib.hid (show stp rows zs n (cs, cm) k = (cs, cm) from if_neg (by show ¬ wrongB rows zs cs n k = true; rw [hp]; simp))
            clear hp hFo hcl hrc hown hbel hz9 hck
            go_wp2_with fail
            refine HW.out.mono ?_
            rintro e' w5 ⟨rfl, hb5⟩
            have HO5 := Lib.hid (ownsRow_block (w' := w5) HO.out (fun g hg => hb5.block g (HO.out.lt g hg).2))
            have HB5 := Lib.hid (HBo.out.trans (hb5.mono (by omega)))
            clear hb5
            go_wp2_with fail
            go_roundw
            case rel => exact ⟨k + 1, by omega, by go_num, by rw [HST.out, HS1.out], by rw [HST.out, HS1.out]; exact HO5.out, HB5.out⟩
            case measure => simp [intOf]; omega
          · skip
            have HW := Lib.hid (impl_wrong a rows c a' zs c' (some ⟨w2.heap.size, 0, none⟩) cs rows.length n k wr (Hhr.out.below HBB.out) (Hhz.out.below HBB.out) hrc hFo hlt hz9 true (Lib.hid hp))
            rw [hcl] at HW
            have HS1 := Lib.hid (show stp rows zs n (cs, cm) k = (cs.set k (cs.getD k 0 + 1), 0) from if_pos hp)
            clear hp hFo hcl hrc hown hbel hz9
            have e9 : IntKind.i64.wrap (cs.getD k 0 + 1) = cs.getD k 0 + 1 := IntWalk.i64_in _ (by omega)
            clear hck
            go_wp2_with fail
            refine HW.out.mono ?_
            rintro e' w5 ⟨rfl, hb5⟩
            have ho5 := ownsRow_block (w' := w5) HO.out (fun g hg => hb5.block g (HO.out.lt g hg).2)
            have hcell : w5.cell? ⟨w2.heap.size, k, none⟩ = some (.int .i64 (cs.getD k 0)) := by
              rw [ho5.cellAt k (by omega), List.getElem?_map, List.getElem?_eq_getElem (by have := HCL.out; omega), List.getD_eq_getElem?_getD, List.getElem?_eq_getElem (by have := HCL.out; omega)]; rfl
            have hfro := ho5.frozenAt k
            have hst := (ho5.stored k (.int .i64 (cs.getD k 0 + 1))).1
            rw [map_set] at hst
            have HO5 := Lib.hid hst
            have HB5 := Lib.hid ((HBo.out.trans (hb5.mono (by omega))).setCell (p := ⟨w2.heap.size, k, none⟩) (Nat.le_refl _) (.int .i64 (cs.getD k 0 + 1)))
            clear hb5 hst ho5
            generalize cs.getD k 0 = y at *
            go_wp2_with fail
            go_roundw
            case rel => exact ⟨k + 1, by omega, by go_num, by rw [HST.out, HS1.out], by rw [HST.out, HS1.out]; exact HO5.out, HB5.out⟩
            case measure => simp [intOf]; omega
        · have hke : k = rows.length := by omega
          rw [hke] at hown
          have HF := Lib.hid (show (wr.ownsRow w.heap.size 3 1 (.slice (some ⟨w2.heap.size, 0, none⟩) rows.length rows.length) rows.length ((stN.1).map (Value.int .i64))) ∧ Below w2.heap.size w4 wr from ⟨by rw [HRN.out]; exact hown, HBl.out⟩)
          have i3 : ¬ (k : Int) < (rows.length : Int) := by omega
          have HNX := Lib.hid (show Value.int .i64 (passTo rows zs n st0 k).2 = .int .i64 stN.2 by rw [hke, HRN.out])
          clear hown hbel hin hke HOP HIN
          go_wp2_with fail
          go_roundw
          case rel => exact ⟨p + 1, by omega, by go_num, by rw [← HSN.out]; exact HNX.out, by rw [← HSN.out]; exact HF.out.1, HF.out.2⟩
          case measure => simp [intOf]; omega
    · obtain rfl : p = m := by omega
      have i2 : ¬ (p : Int) < (p : Int) := by omega
      have HF := Lib.hid (show RetINB (runTo rows zs n p).1 (runTo rows zs n p).2 true w (.returned (.tuple #[.slice (some ⟨w2.heap.size, 0, none⟩) rows.length rows.length, .int .i64 (runTo rows zs n p).2, .bool true])) wo from by
        have h1 := (run_in rows zs n p).1
        have h2 : OwnI w.heap.size wo.heap.size wo (.slice (some ⟨w2.heap.size, 0, none⟩) (runTo rows zs n p).1.length rows.length) (runTo rows zs n p).1 := OwnI.of (by rw [h1]; exact HOP.out)
        rw [h1] at h2
        exact ⟨_, rfl, h2, HB4.out.trans (HBP.out.mono (by omega))⟩)
      clear HOP
      generalize runTo rows zs n p = stF at *
      go_wp2_with fail
      go_ret3
      exact HF.out
end Go.Proofs.Ytkbcofgigfnfaaa.krnr
