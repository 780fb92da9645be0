/- The program's last stage of a net. -/
import Derived.Test.YtkbcofgigfnfaaaNetP
namespace Go.Proofs.Ytkbcofgigfnfaaa.lasti
open Go.RowKit own pp netp
set_option linter.unusedVariables false
set_option linter.unusedSimpArgs false

/-- A stage: the pointer leads along the layers, the last one first. -/
def Stg (w : World) : List (List (List Int × Int)) → Option Addr → Prop
  | [], p => p = none
  | l :: r, p => ∃ g q a c, p = some ⟨g, 0, none⟩ ∧ g < w.heap.size ∧ w.cell? ⟨g, 0, none⟩ = some (.pointer q) ∧ w.cell? ⟨g, 1, none⟩ = some (.slice a l.length c) ∧ ReadsJ w a l ∧ Stg w r q
theorem Stg.below {w w' : World} {r : List (List (List Int × Int))} {p : Option Addr} (h : Stg w r p) (hb : Below w.heap.size w w') : Stg w' r p := by
  induction r generalizing p with
  | nil => exact h
  | cons l r ih =>
    obtain ⟨g, q, a, c, h1, h2, h3, h4, h5, h6⟩ := h
    exact ⟨g, q, a, c, h1, Nat.lt_of_lt_of_le h2 hb.size, cell_below hb h3 h2, cell_below hb h4 h2, h5.below hb, ih h6⟩
theorem rev_last (ls : List (List (List Int × Int))) (h : 1 ≤ ls.length) : ∃ r, ls.reverse = ls.getD (ls.length - 1) [] :: r := by
  rcases List.eq_nil_or_concat ls with rfl | ⟨xs, x, rfl⟩
  · simp at h
  · exact ⟨xs.reverse, by simp⟩
set_option maxRecDepth 100000 in
set_option maxHeartbeats 1600000 in
theorem last_any (a : Option Addr) (ls : List (List (List Int × Int))) (c : Nat) (n : Int) (w : World) (hr : ReadsL w a ls) (hn : ls.length ≤ 1048576) :
    Calls Try.prog 109 #[.agg #[.int .i64 n, .slice a ls.length c]] w (fun e w' => ∃ p, e = .returned (.pointer p) ∧ Stg w' ls.reverse p ∧ Below w.heap.size w w') := by
  have Hhr := Lib.hid hr
  clear hr
  go_enter Try.func109, Try.ntmps109
  obtain ⟨wb1, hw1⟩ : ∃ wb1 : World, wb1 = w.alloc (.cells #[.int .i64 n, .slice a ls.length c] 65) := ⟨_, rfl⟩
  have z1 : wb1.heap.size = w.heap.size + 1 := by rw [hw1]; simp
  have x0_0 := (by rw [hw1]; exact cell_new _ _ _ rfl rfl : wb1.cell? ⟨w.heap.size, 0, none⟩ = some (.int .i64 n))
  have x0_1 := (by rw [hw1]; exact cell_new _ _ _ rfl rfl : wb1.cell? ⟨w.heap.size, 1, none⟩ = some (.slice a ls.length c))
  have HB0 := Lib.hid (show Below w.heap.size w wb1 by rw [hw1]; exact (Below.refl w.heap.size w).alloc (Nat.le_refl _) _)
  have s1 : w.heap.size + 1 ≤ wb1.heap.size := by omega
  have HZ1 := Lib.hid z1
  clear z1
  go_wp2_with fail
  rw [← hw1]
  clear hw1
  go_loopw [3, 9] (fun v i wr => ∃ (k : Nat) (p : Option Addr), k ≤ ls.length ∧ i = .int .i64 k ∧ v = .pointer p ∧ Stg wr (ls.take k).reverse p ∧ Below wb1.heap.size wb1 wr) (fun _ i _ => ls.length - (intOf i).toNat)
  case atStart => exact ⟨0, none, by omega, rfl, rfl, rfl, Below.refl _ _⟩
  case round =>
    obtain ⟨k, p, hk, rfl, rfl, hst, hbel⟩ := hrel
    have hsz := hbel.size
    by_cases hlt : k < ls.length
    · obtain ⟨b, off, a2, q2, rfl, hb, hc, _, hrow⟩ := ((Hhr.out.below HB0.out).below hbel).at hlt
      have HS := Lib.hid (show (ls.take (k + 1)).reverse = ls.getD k [] :: (ls.take k).reverse by rw [take_snocL ls k hlt, List.reverse_append]; rfl)
      have HN := Lib.hid (show Stg (wr.alloc (.cells #[.pointer p, .slice a2 (ls.getD k []).length q2] 105)) (ls.getD k [] :: (ls.take k).reverse) (some ⟨wr.heap.size, 0, none⟩) from
        ⟨wr.heap.size, p, a2, q2, rfl, by simp, cell_new _ _ _ rfl rfl, cell_new _ _ _ rfl rfl, hrow.below (below_alloc _ _), hst.below (below_alloc _ _)⟩)
      have HB9 := Lib.hid (hbel.alloc hsz (.cells #[.pointer p, .slice a2 (ls.getD k []).length q2] 105))
      have i1 : (0 : Int) ≤ (k : Int) := by omega
      have i2 : (k : Int) < (ls.length : Int) := by omega
      clear hst hrow hbel
      generalize (ls.take k).reverse = rr at *
      generalize ls.getD k [] = l at *
      go_wp2_with fail
      go_roundw
      case rel => exact ⟨k + 1, _, by omega, by go_num, rfl, by rw [HS.out]; exact HN.out, HB9.out⟩
      case measure => simp [intOf]; omega
    · obtain rfl : k = ls.length := by omega
      rw [List.take_length] at hst
      have HF := Lib.hid (show ∃ p', Ending.returned (.pointer p) = .returned (.pointer p') ∧ Stg wr ls.reverse p' ∧ Below w.heap.size w wr from ⟨p, rfl, hst, HB0.out.trans (hbel.mono (by omega))⟩)
      clear hst hbel
      go_wp2_with fail
      go_ret
      exact HF.out
end Go.Proofs.Ytkbcofgigfnfaaa.lasti
