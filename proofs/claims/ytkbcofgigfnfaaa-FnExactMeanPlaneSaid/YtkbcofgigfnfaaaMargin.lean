/- The walks of the model's and the program's margins. -/
import Derived.Test.YtkbcofgigfnfaaaSidesOf
import Derived.Test.YtkbcofgigfnfaaaShelf
import Derived.Deep.RegionHeld3
import Derived.Deep.DrawnRows
namespace Go.Proofs.Ytkbcofgigfnfaaa.margin
open Go.RowKit own pp nums samplesv samplest dots both sides
set_option linter.unusedVariables false
set_option linter.unusedSimpArgs false
attribute [local go_sem ↓] Go.wp_at_zero Go.wp_at_succ

theorem infoInt : (Try.prog.info? 3).map (fun i => (i.zero, i.size, i.bytes)) = some (some (.int .i64 0), 1, 8) := by kernel_rfl

/-- The margin of a plane at a point with a label. -/
def mg (ws : List Int) (b : Int) (xs : List Int) (y : Int) : Int := y * (2 * dot ws xs - 2 * b + 1)
def mgAt (rows : List (List Int)) (zs ws : List Int) (b : Int) (k : Nat) : Int := mg ws b (rows.getD k []) (zs.getD k 0)
def mgs (rows : List (List Int)) (zs ws : List Int) (b : Int) (k : Nat) : List Int := (List.range k).map (mgAt rows zs ws b)
/-- The least of the first k. -/
def leastTo (rows : List (List Int)) (zs ws : List Int) (b : Int) : Nat → Int
  | 0 => 0
  | k + 1 => if k = 0 ∨ mgAt rows zs ws b k < leastTo rows zs ws b k then mgAt rows zs ws b k else leastTo rows zs ws b k
theorem cell_set {w : World} {b o : Nat} {x : Value} (h : w.cell? ⟨b, o, none⟩ = some x) {a : Addr} (hb : b ≠ a.block) (u : Value) : (w.setCell a u).cell? ⟨b, o, none⟩ = some x :=
  (World.cell?_of_block (Below.heap_setCell _ _ _ _ hb)).trans h
theorem reads_at {w : World} {b off : Nat} {zs : List Int} (h : ints.Reads .i64 w (some ⟨b, off, none⟩) zs) : ∀ j, j < zs.length → w.cell? ⟨b, off + j, none⟩ = some (.int .i64 (zs.getD j 0)) := by
  rcases h with rfl | ⟨b', off', e, _, h⟩
  · intro j hj; simp at hj
  · cases e; exact h
theorem mgs_length (rows : List (List Int)) (zs ws : List Int) (b : Int) (k : Nat) : (mgs rows zs ws b k).length = k := by simp [mgs]
theorem mgs_succ (rows : List (List Int)) (zs ws : List Int) (b : Int) (k : Nat) : mgs rows zs ws b (k + 1) = mgs rows zs ws b k ++ [mgAt rows zs ws b k] := by simp [mgs, List.range_succ]
theorem mgs_getD (rows : List (List Int)) (zs ws : List Int) (b : Int) (n k : Nat) (h : k < n) : (mgs rows zs ws b n).getD k 0 = mgAt rows zs ws b k := by
  rw [List.getD_eq_getElem?_getD]; simp [mgs, h]
theorem mgs_fold (rows : List (List Int)) (zs ws : List Int) (b : Int) (k : Nat) : (mgs rows zs ws b (k + 1)).foldl min (mgAt rows zs ws b 0) = leastTo rows zs ws b (k + 1) := by
  induction k with
  | zero => simp [mgs, leastTo, List.range_succ]
  | succ k ih =>
    rw [mgs_succ, List.foldl_append, ih]
    show min (leastTo rows zs ws b (k + 1)) (mgAt rows zs ws b (k + 1)) = if k + 1 = 0 ∨ mgAt rows zs ws b (k + 1) < leastTo rows zs ws b (k + 1) then mgAt rows zs ws b (k + 1) else leastTo rows zs ws b (k + 1)
    rw [Int.min_def]
    split <;> split <;> omega
theorem mgs_min (rows : List (List Int)) (zs ws : List Int) (b : Int) (n : Nat) (h : 0 < n) : Lib.minOf (mgs rows zs ws b n) = leastTo rows zs ws b n := by
  obtain ⟨k, rfl⟩ : ∃ k, n = k + 1 := ⟨n - 1, by omega⟩
  rw [← mgs_fold]
  unfold Lib.minOf
  congr 1
  simp [mgs, List.range_succ_eq_map]

/-- The bounds of a product at a point of a sample that the plane suits. -/
def DotBd (rows : List (List Int)) (zs ws : List Int) : Prop := ∀ k, k < rows.length → (-3564 ≤ dot ws (rows.getD k []) ∧ dot ws (rows.getD k []) ≤ 3564) ∧ (zs.getD k 0 = 1 ∨ zs.getD k 0 = -1)
theorem dot_bd4 {ws xs : List Int} (hA : numsB 99 ws = true) (hB : numsB 9 xs = true) (hl : ws.length ≤ 4) (he : ws.length ≤ xs.length) : -3564 ≤ dot ws xs ∧ dot ws xs ≤ 3564 := by
  have hb : ∀ k, k ≤ ws.length → -(891 * (k : Int)) ≤ dotTo ws xs k ∧ dotTo ws xs k ≤ 891 * (k : Int) := by
    intro k
    induction k with
    | zero => intro _; simp [dotTo_zero]
    | succ k ih =>
      intro hk
      have h1 := ih (by omega)
      have h2 := numsB_at hA k (by omega)
      have h3 := numsB_at hB k (by omega)
      have h4 := mul_bd h2.1 h2.2 h3.1 h3.2
      rw [dotTo_succ]
      omega
  have := hb ws.length (Nat.le_refl _)
  unfold dot
  omega
theorem bd_of {rows : List (List Int)} {zs ws : List Int} {b : Int} (h : bothB rows zs ws b = true) : DotBd rows zs ws := by
  obtain ⟨h1, h2, h3⟩ := (bothB_iff _ _ _ _).1 h
  obtain ⟨s1, s2, s3, s4⟩ := (sampleB_iff _ _).1 h1
  obtain ⟨p1, p2, p3, p4⟩ := (planeB_iff _ _).1 h2
  intro k hk
  have hr := all_at _ [] rows s4 k hk
  simp only [Bool.and_eq_true, decide_eq_true_eq] at hr
  have hl : (rows.getD k []).length = ws.length := by rcases h3 with h3 | h3 <;> omega
  refine ⟨dot_bd4 p3 ((pointB_iff _).1 hr.1).2.2 p2 (by omega), ?_⟩
  have := all_at _ 0 zs s3 k (by omega)
  exact (labelB_iff _).1 this
theorem plane_b {rows : List (List Int)} {zs ws : List Int} {b : Int} (h : bothB rows zs ws b = true) : -99 ≤ b ∧ b ≤ 99 := (inB_iff _ _).1 ((planeB_iff _ _).1 ((bothB_iff _ _ _ _).1 h).2.1).2.2.2


/-- A sample with points and a plane that suits it. -/
def mB (rows : List (List Int)) (zs ws : List Int) (b : Int) : Bool := bothB rows zs ws b && decide (0 < rows.length)
theorem mB_iff (rows : List (List Int)) (zs ws : List Int) (b : Int) : mB rows zs ws b = true ↔ bothB rows zs ws b = true ∧ 0 < rows.length := by simp [mB]

/-- A sample with points. -/
def hpB (rows : List (List Int)) (zs : List Int) : Bool := sampleB rows zs && decide (0 < rows.length)
theorem hpB_iff (rows : List (List Int)) (zs : List Int) : hpB rows zs = true ↔ sampleB rows zs = true ∧ 0 < rows.length := by simp [hpB]

/-- The first k margins, then zeros. -/
def filled (rows : List (List Int)) (zs ws : List Int) (b : Int) (n k : Nat) : List Value := (mgs rows zs ws b k).map (Value.int .i64) ++ List.replicate (n - k) (.int .i64 0)
theorem filled_zero (rows : List (List Int)) (zs ws : List Int) (b : Int) (n : Nat) : filled rows zs ws b n 0 = List.replicate n (.int .i64 0) := by simp [filled, mgs]
theorem filled_all (rows : List (List Int)) (zs ws : List Int) (b : Int) (n : Nat) : filled rows zs ws b n n = (mgs rows zs ws b n).map (Value.int .i64) := by simp [filled]
theorem filled_succ (rows : List (List Int)) (zs ws : List Int) (b : Int) (n k : Nat) (h : k < n) : (filled rows zs ws b n k).set k (.int .i64 (mgAt rows zs ws b k)) = filled rows zs ws b n (k + 1) := by
  unfold filled
  rw [List.set_append, if_neg (by simp [mgs_length]), show n - k = (n - (k + 1)) + 1 by omega, List.replicate_succ, List.length_map, mgs_length, Nat.sub_self, List.set_cons_zero, mgs_succ, List.map_append, List.append_assoc]
  rfl
theorem filled_at (rows : List (List Int)) (zs ws : List Int) (b : Int) (n k : Nat) (h : k < n) : (filled rows zs ws b n k)[k]? = some (.int .i64 0) := by
  unfold filled
  rw [List.getElem?_append_right (by simp [mgs_length]), List.getElem?_replicate, if_pos (by simp [mgs_length]; omega)]
end Go.Proofs.Ytkbcofgigfnfaaa.margin
