/- Joining strings as a plain function of lists of bytes, and when it may be done: no condition. -/
import Derived.Test.YtocjedheimhfoaaStrs
import Derived.Lib.Join
namespace Go.Proofs.Ytocjedheimhfoaa.pjoin
open Go.RowKit

/-- Does the byte stand in the list? -/
def has (l : List UInt8) (b : UInt8) : Bool := l.contains b
def jn (ss : List ByteArray) (sep : List UInt8) : List UInt8 := Lib.join (ss.map fun s => s.data.toList) sep
def clean (ss : List ByteArray) (b : UInt8) : Bool := ss.all fun s => !has s.data.toList b
def ok (ss : List ByteArray) (b : UInt8) : Bool := clean ss b && decide (strs.tot ss + ss.length ≤ 4001)
def bad : Value := .tuple #[.string ByteArray.empty, .bool false]
def good (l : List UInt8) : Value := .tuple #[.string ⟨l.toArray⟩, .bool true]
def res (ss : List ByteArray) (sep : List UInt8) (b : UInt8) : Value := if ok ss b then good (jn ss sep) else bad

theorem res_yes {ss : List ByteArray} {sep : List UInt8} {b : UInt8} (h : ok ss b = true) : res ss sep b = good (jn ss sep) := by rw [res, if_pos h]
theorem res_no {ss : List ByteArray} {sep : List UInt8} {b : UInt8} (h : ok ss b = false) : res ss sep b = bad := by rw [res, h]; rfl

theorem clean_take_succ (ss : List ByteArray) (k : Nat) (h : k < ss.length) (b : UInt8) : clean (ss.take (k + 1)) b = (clean (ss.take k) b && !has (ss.getD k ByteArray.empty).data.toList b) := by
  unfold clean
  rw [List.take_succ_eq_append_getElem h, List.all_append, List.getD_eq_getElem?_getD, List.getElem?_eq_getElem h]
  simp

theorem clean_take_of (ss : List ByteArray) (k : Nat) (b : UInt8) (h : clean (ss.take k) b = false) : clean ss b = false := by
  unfold clean at *
  rw [List.all_eq_false] at *
  obtain ⟨x, hx, hh⟩ := h
  exact ⟨x, List.mem_of_mem_take hx, hh⟩

theorem not_ok_byte (ss : List ByteArray) (k : Nat) (h : k < ss.length) (b : UInt8) (hb : has (ss.getD k ByteArray.empty).data.toList b = true) : ok ss b = false := by
  have : clean ss b = false := clean_take_of ss (k + 1) b (by rw [clean_take_succ ss k h, hb]; simp)
  simp [ok, this]

theorem not_ok_long (ss : List ByteArray) (k : Nat) (h : k < ss.length) (b : UInt8) (hl : 4001 < strs.tot (ss.take (k + 1)) + (k + 1)) : ok ss b = false := by
  have := strs.tot_take_le ss (k + 1)
  have : ¬ strs.tot ss + ss.length ≤ 4001 := by omega
  simp [ok, this]

theorem ok_all (ss : List ByteArray) (b : UInt8) (h1 : clean (ss.take ss.length) b = true) (h2 : strs.tot (ss.take ss.length) + ss.length ≤ 4001) : ok ss b = true := by
  rw [List.take_length] at h1 h2
  simp [ok, h1, h2]

theorem jn_zero (ss : List ByteArray) (sep : List UInt8) : jn (ss.take 0) sep = [] := rfl

theorem jn_one (ss : List ByteArray) (sep : List UInt8) (h : 0 < ss.length) : jn (ss.take (0 + 1)) sep = (ss.getD 0 ByteArray.empty).data.toList := by
  cases ss with
  | nil => simp at h
  | cons x r => simp [jn, Lib.join_one]

theorem jn_succ (ss : List ByteArray) (sep : List UInt8) (k : Nat) (h0 : 0 < k) (h : k < ss.length) : jn (ss.take (k + 1)) sep = jn (ss.take k) sep ++ sep ++ (ss.getD k ByteArray.empty).data.toList := by
  cases ss with
  | nil => simp at h
  | cons x r =>
    obtain ⟨j, rfl⟩ : ∃ j, k = j + 1 := ⟨k - 1, by omega⟩
    simp only [List.length_cons] at h
    unfold jn
    rw [List.take_succ_cons, List.take_succ_cons, List.map_cons, List.map_cons, Lib.join_cons, Lib.join_cons, List.map_take, List.map_take,
      Lib.joinTail_take_succ sep _ j (r.getD j ByteArray.empty).data.toList (by rw [List.getElem?_map, List.getElem?_eq_getElem (by omega), List.getD_eq_getElem?_getD, List.getElem?_eq_getElem (by omega)]; rfl)]
    simp [List.append_assoc]

theorem jn_all (ss : List ByteArray) (sep : List UInt8) : jn (ss.take ss.length) sep = jn ss sep := by rw [List.take_length]
end Go.Proofs.Ytocjedheimhfoaa.pjoin
