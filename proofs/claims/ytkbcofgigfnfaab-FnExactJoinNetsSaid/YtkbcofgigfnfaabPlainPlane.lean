/- Points, samples and planes as plain data: plain definitions and lemmas, no condition. -/
namespace Go.Proofs.Ytkbcofgigfnfaab.pp

/-- Within -m..m. -/
def inB (m z : Int) : Bool := decide (-m ≤ z) && decide (z ≤ m)
def numsB (m : Int) (zs : List Int) : Bool := zs.all (inB m)
def pointB (zs : List Int) : Bool := decide (1 ≤ zs.length) && decide (zs.length ≤ 4) && numsB 9 zs
def labelB (z : Int) : Bool := decide (z = 1) || decide (z = -1)
def labelsB (zs : List Int) : Bool := zs.all labelB
def rowsB (rows : List (List Int)) : Bool := rows.all fun r => pointB r && decide (r.length = (rows.getD 0 []).length)
def sampleB (rows : List (List Int)) (zs : List Int) : Bool := decide (rows.length ≤ 16) && decide (zs.length = rows.length) && labelsB zs && rowsB rows
def planeB (zs : List Int) (b : Int) : Bool := decide (1 ≤ zs.length) && decide (zs.length ≤ 4) && numsB 99 zs && inB 99 b

theorem getD_mem {α : Type} (l : List α) (d : α) (k : Nat) (h : k < l.length) : l.getD k d ∈ l := by
  rw [List.getD_eq_getElem?_getD, List.getElem?_eq_getElem h]
  exact List.getElem_mem h
theorem mem_getD {α : Type} (l : List α) (d x : α) (h : x ∈ l) : ∃ k, k < l.length ∧ l.getD k d = x := by
  obtain ⟨k, hk, e⟩ := List.getElem_of_mem h
  exact ⟨k, hk, by rw [List.getD_eq_getElem?_getD, List.getElem?_eq_getElem hk]; exact e⟩

/-- All of a list, told place by place. -/
theorem all_true {α : Type} (p : α → Bool) (d : α) (l : List α) (h : ∀ k, k < l.length → p (l.getD k d) = true) : l.all p = true := by
  rw [List.all_eq_true]
  intro x hx
  obtain ⟨k, hk, e⟩ := mem_getD l d x hx
  rw [← e]
  exact h k hk
theorem all_false {α : Type} (p : α → Bool) (d : α) (l : List α) (k : Nat) (hk : k < l.length) (h : p (l.getD k d) = false) : l.all p = false := by
  rw [List.all_eq_false]
  exact ⟨_, getD_mem l d k hk, by rw [h]; simp⟩
theorem all_at {α : Type} (p : α → Bool) (d : α) (l : List α) (h : l.all p = true) (k : Nat) (hk : k < l.length) : p (l.getD k d) = true :=
  List.all_eq_true.1 h _ (getD_mem l d k hk)

theorem inB_iff (m z : Int) : inB m z = true ↔ -m ≤ z ∧ z ≤ m := by simp [inB]
theorem numsB_at {m : Int} {zs : List Int} (h : numsB m zs = true) (k : Nat) (hk : k < zs.length) : -m ≤ zs.getD k 0 ∧ zs.getD k 0 ≤ m := (inB_iff _ _).1 (all_at _ 0 zs h k hk)
theorem pointB_iff (zs : List Int) : pointB zs = true ↔ 1 ≤ zs.length ∧ zs.length ≤ 4 ∧ numsB 9 zs = true := by simp [pointB, and_assoc]
theorem planeB_iff (zs : List Int) (b : Int) : planeB zs b = true ↔ 1 ≤ zs.length ∧ zs.length ≤ 4 ∧ numsB 99 zs = true ∧ inB 99 b = true := by simp [planeB, and_assoc]
theorem labelB_iff (z : Int) : labelB z = true ↔ z = 1 ∨ z = -1 := by simp [labelB]
theorem sampleB_iff (rows : List (List Int)) (zs : List Int) : sampleB rows zs = true ↔ rows.length ≤ 16 ∧ zs.length = rows.length ∧ labelsB zs = true ∧ rowsB rows = true := by simp [sampleB, and_assoc]
/-- The product of the first k numbers of two lists. -/
def dotTo (xs ys : List Int) (k : Nat) : Int := ((List.range k).map fun i => xs.getD i 0 * ys.getD i 0).sum
def dot (xs ys : List Int) : Int := dotTo xs ys xs.length
def side (ws : List Int) (b : Int) (xs : List Int) : Int := if b ≤ dot ws xs then 1 else -1
theorem dotTo_zero (xs ys : List Int) : dotTo xs ys 0 = 0 := rfl
theorem dotTo_succ (xs ys : List Int) (k : Nat) : dotTo xs ys (k + 1) = dotTo xs ys k + xs.getD k 0 * ys.getD k 0 := by
  simp [dotTo, List.range_succ, List.sum_append]

/-- Products of the numbers of two lists, place by place, are no larger than a thousand millions. -/
def Small (xs ys : List Int) : Prop := ∀ k, k < xs.length → -1000000000 ≤ xs.getD k 0 * ys.getD k 0 ∧ xs.getD k 0 * ys.getD k 0 ≤ 1000000000

theorem dotTo_bd {xs ys : List Int} (h : Small xs ys) (k : Nat) (hk : k ≤ xs.length) : -(1000000000 * (k : Int)) ≤ dotTo xs ys k ∧ dotTo xs ys k ≤ 1000000000 * (k : Int) := by
  induction k with
  | zero => simp [dotTo_zero]
  | succ k ih =>
    have h1 := ih (by omega)
    have h2 := h k (by omega)
    rw [dotTo_succ]
    omega

theorem mul_bd {x y A B : Int} (h1 : -A ≤ x) (h2 : x ≤ A) (h3 : -B ≤ y) (h4 : y ≤ B) : -(A * B) ≤ x * y ∧ x * y ≤ A * B := by
  have hA : 0 ≤ A := by omega
  have hB : 0 ≤ B := by omega
  constructor
  · have e1 : 0 ≤ (A - x) * (B + y) := Int.mul_nonneg (by omega) (by omega)
    have e2 : 0 ≤ (A + x) * (B - y) := Int.mul_nonneg (by omega) (by omega)
    have e3 : 0 ≤ (A + x) * (B + y) := Int.mul_nonneg (by omega) (by omega)
    have e4 : 0 ≤ (A - x) * (B - y) := Int.mul_nonneg (by omega) (by omega)
    simp only [Int.sub_mul, Int.add_mul, Int.mul_add, Int.mul_sub] at e1 e2 e3 e4
    omega
  · have e1 : 0 ≤ (A - x) * (B + y) := Int.mul_nonneg (by omega) (by omega)
    have e2 : 0 ≤ (A + x) * (B - y) := Int.mul_nonneg (by omega) (by omega)
    simp only [Int.sub_mul, Int.add_mul, Int.mul_add, Int.mul_sub] at e1 e2
    omega

theorem small_of {ws xs : List Int} {A B : Int} (hA : numsB A ws = true) (hB : numsB B xs = true) (hAB : A * B ≤ 1000000000) (hl : ws.length ≤ xs.length) : Small ws xs := by
  intro k hk
  have h1 := numsB_at hA k hk
  have h2 := numsB_at hB k (by omega)
  have := mul_bd h1.1 h1.2 h2.1 h2.2
  omega

/-- What the product of a plane and a point comes to. -/
def oneB (ws : List Int) (b : Int) (xs : List Int) : Bool := planeB ws b && pointB xs && decide (xs.length = ws.length)
theorem oneB_iff (ws : List Int) (b : Int) (xs : List Int) : oneB ws b xs = true ↔ planeB ws b = true ∧ pointB xs = true ∧ xs.length = ws.length := by simp [oneB, and_assoc]
theorem one_small {ws : List Int} {b : Int} {xs : List Int} (h : oneB ws b xs = true) : Small ws xs := by
  obtain ⟨h1, h2, h3⟩ := (oneB_iff _ _ _).1 h
  exact small_of ((planeB_iff _ _).1 h1).2.2.1 ((pointB_iff _).1 h2).2.2 (by decide) (by omega)
end Go.Proofs.Ytkbcofgigfnfaab.pp
