/- Points, samples and planes as plain data: plain definitions and lemmas, no condition. -/
namespace Go.Proofs.Ytcdajnllhmadcaa.pp

/-- Within -m..m. -/
def inB (m z : Int) : Bool := decide (-m ≤ z) && decide (z ≤ m)
def numsB (m : Int) (zs : List Int) : Bool := zs.all (inB m)
def pointB (zs : List Int) : Bool := decide (1 ≤ zs.length) && decide (zs.length ≤ 4) && numsB 9 zs
def labelB (z : Int) : Bool := decide (z = 1) || decide (z = -1)
def labelsB (zs : List Int) : Bool := zs.all labelB
def rowsB (rows : List (List Int)) : Bool := rows.all fun r => pointB r && decide (r.length = (rows.getD 0 []).length)
def sampleB (rows : List (List Int)) (zs : List Int) : Bool := decide (rows.length ≤ 16) && decide (zs.length = rows.length) && labelsB zs && rowsB rows
def planeB (zs : List Int) (b : Int) : Bool := decide (1 ≤ zs.length) && decide (zs.length ≤ 4) && numsB 99 zs && inB 99 b

theorem getD_mem {α : Type} (l : List α) (d : α) (k : Nat) (h : k < l.length) : l.getD k d ∈ l := by
  rw [List.getD_eq_getElem?_getD, List.getElem?_eq_getElem h]
  exact List.getElem_mem h
theorem mem_getD {α : Type} (l : List α) (d x : α) (h : x ∈ l) : ∃ k, k < l.length ∧ l.getD k d = x := by
  obtain ⟨k, hk, e⟩ := List.getElem_of_mem h
  exact ⟨k, hk, by rw [List.getD_eq_getElem?_getD, List.getElem?_eq_getElem hk]; exact e⟩

/-- All of a list, told place by place. -/
theorem all_true {α : Type} (p : α → Bool) (d : α) (l : List α) (h : ∀ k, k < l.length → p (l.getD k d) = true) : l.all p = true := by
  rw [List.all_eq_true]
  intro x hx
  obtain ⟨k, hk, e⟩ := mem_getD l d x hx
  rw [← e]
  exact h k hk
theorem all_false {α : Type} (p : α → Bool) (d : α) (l : List α) (k : Nat) (hk : k < l.length) (h : p (l.getD k d) = false) : l.all p = false := by
  rw [List.all_eq_false]
  exact ⟨_, getD_mem l d k hk, by rw [h]; simp⟩
theorem all_at {α : Type} (p : α → Bool) (d : α) (l : List α) (h : l.all p = true) (k : Nat) (hk : k < l.length) : p (l.getD k d) = true :=
  List.all_eq_true.1 h _ (getD_mem l d k hk)

theorem inB_iff (m z : Int) : inB m z = true ↔ -m ≤ z ∧ z ≤ m := by simp [inB]
theorem numsB_at {m : Int} {zs : List Int} (h : numsB m zs = true) (k : Nat) (hk : k < zs.length) : -m ≤ zs.getD k 0 ∧ zs.getD k 0 ≤ m := (inB_iff _ _).1 (all_at _ 0 zs h k hk)
theorem pointB_iff (zs : List Int) : pointB zs = true ↔ 1 ≤ zs.length ∧ zs.length ≤ 4 ∧ numsB 9 zs = true := by simp [pointB, and_assoc]
theorem planeB_iff (zs : List Int) (b : Int) : planeB zs b = true ↔ 1 ≤ zs.length ∧ zs.length ≤ 4 ∧ numsB 99 zs = true ∧ inB 99 b = true := by simp [planeB, and_assoc]
theorem labelB_iff (z : Int) : labelB z = true ↔ z = 1 ∨ z = -1 := by simp [labelB]
theorem sampleB_iff (rows : List (List Int)) (zs : List Int) : sampleB rows zs = true ↔ rows.length ≤ 16 ∧ zs.length = rows.length ∧ labelsB zs = true ∧ rowsB rows = true := by simp [sampleB, and_assoc]
end Go.Proofs.Ytcdajnllhmadcaa.pp
