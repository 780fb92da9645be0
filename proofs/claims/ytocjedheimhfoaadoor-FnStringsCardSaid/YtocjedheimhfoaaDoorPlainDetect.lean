/- A sealed text opens again, and a text that differs from it in one byte does not: plain lemmas; the one condition is that the text bears no mark. -/
import Derived.Test.YtocjedheimhfoaaDoorPlainSum
import Derived.Test.YtocjedheimhfoaaDoorPlainCut
import Derived.Test.YtocjedheimhfoaaDoorPlainParse
namespace Go.Proofs.YtocjedheimhfoaaDoor.detect
open Go.RowKit pjoin pcut pparse

def txt (l : List UInt8) : ByteArray := ⟨l.toArray⟩
def sealL (l : List UInt8) : List UInt8 := l ++ 35 :: Lib.itoa (psum.sum l)

theorem itoa_pos (z : Int) (h : 0 ≤ z) : Lib.itoa z = Lib.decDigits z.toNat := by rw [Lib.itoa, if_neg (by omega)]
theorem sum_digits (l : List UInt8) : (∀ c ∈ Lib.itoa (psum.sum l), isDigit c) ∧ dv 0 (Lib.itoa (psum.sum l)) = psum.sum l := by
  have hb := psum.sum_bd l
  rw [itoa_pos _ hb.1]
  obtain ⟨h1, h2, _⟩ := dec (psum.sum l).toNat (by omega)
  exact ⟨h1, by rw [h2]; omega⟩

theorem no_mark (l : List UInt8) : (35 : UInt8) ∉ Lib.itoa (psum.sum l) := by
  intro h
  have := (sum_digits l).1 35 h
  unfold isDigit at this
  simp at this

theorem itoa_inj (l m : List UInt8) (h : Lib.itoa (psum.sum l) = Lib.itoa (psum.sum m)) : psum.sum l = psum.sum m := by
  rw [← (sum_digits l).2, ← (sum_digits m).2, h]

theorem step_inj (h1 h2 : Int) (c : UInt8) (a1 : 0 ≤ h1) (b1 : h1 ≤ 999978) (a2 : 0 ≤ h2) (b2 : h2 ≤ 999978) (h : psum.step h1 c = psum.step h2 c) : h1 = h2 := by
  unfold psum.step at h
  omega

theorem step_byte (h : Int) (c d : UInt8) (he : psum.step h c = psum.step h d) : c = d := by
  unfold psum.step at he
  have h1 := c.toNat_lt
  have h2 := d.toNat_lt
  apply UInt8.toNat_inj.1
  omega

theorem fold_ne (l : List UInt8) : ∀ h1 h2 : Int, 0 ≤ h1 → h1 ≤ 999978 → 0 ≤ h2 → h2 ≤ 999978 → h1 ≠ h2 → l.foldl psum.step h1 ≠ l.foldl psum.step h2 := by
  induction l with
  | nil => intro h1 h2 _ _ _ _ h; exact h
  | cons c r ih =>
    intro h1 h2 a1 b1 a2 b2 h
    exact ih _ _ (psum.step_bd h1 c).1 (psum.step_bd h1 c).2 (psum.step_bd h2 c).1 (psum.step_bd h2 c).2 fun e => h (step_inj h1 h2 c a1 b1 a2 b2 e)

theorem set_split (l : List UInt8) (k : Nat) (h : k < l.length) (c : UInt8) : l.set k c = l.take k ++ c :: l.drop (k + 1) := by
  rw [List.set_eq_take_append_cons_drop, if_pos h]

theorem self_split (l : List UInt8) (k : Nat) (h : k < l.length) : l = l.take k ++ l[k] :: l.drop (k + 1) := by
  rw [List.getElem_cons_drop, List.take_append_drop]

theorem sum_set (l : List UInt8) (k : Nat) (h : k < l.length) (c : UInt8) (hc : c ≠ l[k]) : psum.sum (l.set k c) ≠ psum.sum l := by
  have e2 : psum.sum l = (l.drop (k + 1)).foldl psum.step (psum.step (psum.sum (l.take k)) l[k]) := by
    conv => lhs; rw [self_split l k h]
    unfold psum.sum
    rw [List.foldl_append]
    rfl
  have e1 : psum.sum (l.set k c) = (l.drop (k + 1)).foldl psum.step (psum.step (psum.sum (l.take k)) c) := by
    rw [set_split l k h]
    unfold psum.sum
    rw [List.foldl_append]
    rfl
  rw [e1, e2]
  exact fold_ne _ _ _ (psum.step_bd _ _).1 (psum.step_bd _ _).2 (psum.step_bd _ _).1 (psum.step_bd _ _).2 fun e => hc (step_byte _ _ _ e)

/-- The head of a text whose first mark is known. -/
theorem head_of (s : ByteArray) (A B : List UInt8) (he : s.data.toList = A ++ 35 :: B) (hA : (35 : UInt8) ∉ A) : head s 35 = txt A := by
  have hsz : s.size = A.length + 1 + B.length := by
    have := congrArg List.length he
    simp at this
    omega
  have hf : firstAt s 35 = A.length := by
    rcases Nat.lt_trichotomy (firstAt s 35) A.length with h | h | h
    · have h1 := at_first s 35 (by omega)
      rw [he, List.getElem?_append_left h] at h1
      exact absurd (List.mem_of_getElem? h1) hA
    · exact h
    · exact absurd (by rw [he, List.getElem?_append_right (Nat.le_refl _)]; simp) (none_before s 35 A.length h)
  unfold head
  rw [hf]
  apply ByteArray.ext
  apply Array.ext'
  have e : (s.extract 0 A.length).data.toList = s.data.toList.take A.length := by simp
  rw [e, he, List.take_left]
  simp [txt]

theorem head_none (s : ByteArray) (h : (35 : UInt8) ∉ s.data.toList) : head s 35 = s := by
  have hf : firstAt s 35 = s.size := by
    have hle := firstAt_le s 35
    by_cases hlt : firstAt s 35 < s.size
    · exact absurd (List.mem_of_getElem? (at_first s 35 hlt)) h
    · omega
  unfold head
  rw [hf]
  simp

theorem open_sealL (l : List UInt8) (h : (35 : UInt8) ∉ l) : head (txt (sealL l)) 35 = txt l := head_of _ l (Lib.itoa (psum.sum l)) (by simp [txt, sealL]) h

/-- One byte is another one: what stands before the first mark has another sealed form. -/
theorem changed (l : List UInt8) (h : (35 : UInt8) ∉ l) (k : Nat) (hk : k < (sealL l).length) (c : UInt8) (hc : c ≠ (sealL l)[k]) :
    sealL (head (txt ((sealL l).set k c)) 35).data.toList ≠ (sealL l).set k c := by
  have hlen : (sealL l).length = l.length + 1 + (Lib.itoa (psum.sum l)).length := by simp [sealL]; omega
  rcases Nat.lt_trichotomy k l.length with hlt | heq | hgt
  · have e : (sealL l).set k c = l.set k c ++ 35 :: Lib.itoa (psum.sum l) := by unfold sealL; rw [List.set_append, if_pos hlt]
    have hk' : (sealL l)[k] = l[k] := by
      have h0 : (sealL l)[k]? = l[k]? := by unfold sealL; rw [List.getElem?_append_left hlt]
      rw [List.getElem?_eq_getElem hk, List.getElem?_eq_getElem hlt] at h0
      exact Option.some.inj h0
    rw [hk'] at hc
    by_cases h35 : c = 35
    · subst h35
      have hA : (35 : UInt8) ∉ l.take k := fun hm => h (List.mem_of_mem_take hm)
      have e2 : (sealL l).set k 35 = l.take k ++ 35 :: (l.drop (k + 1) ++ 35 :: Lib.itoa (psum.sum l)) := by rw [e, set_split l k hlt]; simp
      rw [head_of (txt ((sealL l).set k 35)) (l.take k) (l.drop (k + 1) ++ 35 :: Lib.itoa (psum.sum l)) (by rw [e2]; simp [txt]) hA, e2]
      intro hh
      have h2 : Lib.itoa (psum.sum (l.take k)) = l.drop (k + 1) ++ 35 :: Lib.itoa (psum.sum l) := by
        have h3 : l.take k ++ 35 :: Lib.itoa (psum.sum (l.take k)) = l.take k ++ 35 :: (l.drop (k + 1) ++ 35 :: Lib.itoa (psum.sum l)) := by simpa [sealL, txt] using hh
        simpa using List.append_cancel_left h3
      exact no_mark (l.take k) (by rw [h2]; simp)
    · have hA : (35 : UInt8) ∉ l.set k c := fun hm => by
        rcases List.mem_or_eq_of_mem_set hm with hm | hm
        · exact h hm
        · exact h35 hm.symm
      rw [head_of (txt ((sealL l).set k c)) (l.set k c) (Lib.itoa (psum.sum l)) (by rw [e]; simp [txt]) hA, e]
      intro hh
      have h2 : Lib.itoa (psum.sum (l.set k c)) = Lib.itoa (psum.sum l) := by
        have h3 : l.set k c ++ 35 :: Lib.itoa (psum.sum (l.set k c)) = l.set k c ++ 35 :: Lib.itoa (psum.sum l) := by simpa [sealL, txt] using hh
        simpa using List.append_cancel_left h3
      exact sum_set l k hlt c hc (itoa_inj _ _ h2)
  · subst heq
    have hk' : (sealL l)[l.length] = 35 := by
      have h0 : (sealL l)[l.length]? = some 35 := by unfold sealL; rw [List.getElem?_append_right (Nat.le_refl _)]; simp
      rw [List.getElem?_eq_getElem hk] at h0
      exact Option.some.inj h0
    rw [hk'] at hc
    have e : (sealL l).set l.length c = l ++ c :: Lib.itoa (psum.sum l) := by unfold sealL; rw [List.set_append, if_neg (Nat.lt_irrefl _)]; simp
    have hn : (35 : UInt8) ∉ (txt ((sealL l).set l.length c)).data.toList := by
      rw [e]
      simp only [txt, List.mem_append, List.mem_cons, not_or]
      exact ⟨h, fun e => hc e.symm, no_mark l⟩
    rw [head_none _ hn]
    intro hh
    have := congrArg List.length hh
    simp [sealL, txt] at this
  · have e : (sealL l).set k c = l ++ 35 :: (Lib.itoa (psum.sum l)).set (k - l.length - 1) c := by
      unfold sealL
      rw [List.set_append, if_neg (by omega)]
      obtain ⟨j, hj⟩ : ∃ j, k - l.length = j + 1 := ⟨k - l.length - 1, by omega⟩
      rw [hj, List.set_cons_succ]
      simp
    rw [head_of (txt ((sealL l).set k c)) l ((Lib.itoa (psum.sum l)).set (k - l.length - 1) c) (by rw [e]; simp [txt]) h]
    intro hh
    have h2 : (sealL l)[k]? = ((sealL l).set k c)[k]? := by rw [← hh]; simp [txt]
    rw [List.getElem?_set_self hk, List.getElem?_eq_getElem hk] at h2
    exact hc (Option.some.inj h2).symm
end Go.Proofs.YtocjedheimhfoaaDoor.detect
