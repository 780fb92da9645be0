/- The walks of VoteTable: the model's and the program's. -/
import Derived.Test.YtobdapalllaceaaWins
import Derived.Test.YtobdapalllaceaaMk
import Derived.Test.YtobdapalllaceaaPlaneTable
import Derived.Laws.Rows
namespace Go.Proofs.Ytobdapalllaceaa.toldv
open Go.RowKit own pp nums pv bitw wins ownb tables planetable
set_option linter.unusedVariables false
set_option linter.unusedSimpArgs false

theorem keep_other {wr w3 : World} {o : Obj} {row : Option Nat} (hg : (wr.alloc o).grownBy w3 row) {lo hi : Nat} {v : Value} {n : Nat} {p : Nat → Bool} (h : OwnB lo hi wr v n p) (hne : ∀ g, v.ownBlock = some g → row ≠ some g) : OwnB lo hi w3 v n p :=
  h.block fun g hgv => (hg.block g (by simp; have := h.lt hgv; omega) (fun e => hne g hgv e.symm)).trans (by
    have hl := (h.lt hgv).2.2
    show (wr.heap.push o)[g]? = wr.heap[g]?
    rw [Array.getElem?_push, if_neg (by omega)])
theorem bit_win (ws : List Int) (q : Int) (j : Nat) : bitAt ws q ws.length j = if winB ws q j = true then 1 else 0 := by
  unfold bitAt pp.side winB
  by_cases h : q ≤ pp.dot ws (bitsTo j ws.length)
  · rw [if_pos h, decide_eq_true h]; rfl
  · rw [if_neg h, decide_eq_false h]; rfl
theorem vote_plane {ws : List Int} {q : Int} (h : voteB ws q = true) (h4 : ws.length ≤ 4) : pp.planeB ws q = true := by
  have h1 := (vote_iff _ _).1 h
  have h2 := sumTo_bd (m := 20) ws.length (fun j hj => by have := vote_at h j hj; omega)
  have h3 : pv.sumZ ws = pv.sumTo ws ws.length := rfl
  rw [pp.planeB_iff]
  refine ⟨h1.1.1, h4, pp.all_true _ 0 _ (fun j hj => ?_), ?_⟩
  · have := vote_at h j hj
    rw [pp.inB_iff]; omega
  · rw [pp.inB_iff]; omega
set_option maxRecDepth 100000 in
set_option maxHeartbeats 4000000 in
theorem spec_told (a : Option Addr) (ws : List Int) (c : Nat) (q : Int) (w : World) (hr : ints.Reads .i64 w a ws) (hn : ws.length ≤ 1048576) (hk : voteB ws q = true) :
    Calls Try.prog 92 #[.agg #[.slice a ws.length c, .int .i64 q]] w (intfns.Made (tab ws q) w) := by
  obtain ⟨i0, hi, hz0, hz1, hz2⟩ := info_parts mk.infoInt
  have h18 := ((vote_iff _ _).1 hk).1
  have hzz := ((vote_iff _ _).1 hk).2.1
  have hp12 := bits8.pow8 h18.2
  have HW := Lib.hid (fun (wa : World) (hb : Below w.heap.size w wa) => wins.spec_wins a ws c q wa (hr.below hb) hn h18.2 hzz)
  clear hr hk
  go_enter Try.func92, Try.ntmps92
  obtain ⟨w0, hw0⟩ : ∃ w0 : World, w0 = w.alloc (.cells #[.slice a ws.length c, .int .i64 q] 34) := ⟨_, rfl⟩
  have x0 : w0.cell? ⟨w.heap.size, 0, none⟩ = some (.slice a ws.length c) := by rw [hw0]; exact cell_new _ _ _ rfl rfl
  have x1 : w0.cell? ⟨w.heap.size, 1, none⟩ = some (.int .i64 q) := by rw [hw0]; exact cell_new _ _ _ rfl rfl
  have HB0 := Lib.hid (show Below w.heap.size w w0 by rw [hw0]; exact below_alloc w (.cells #[.slice a ws.length c, .int .i64 q] 34))
  have s0 : w.heap.size + 1 ≤ w0.heap.size := by rw [hw0]; simp
  obtain ⟨w1, hw1⟩ : ∃ w1 : World, w1 = w0.alloc (.cells #[] 3) := ⟨_, rfl⟩
  have y0 : w1.cell? ⟨w.heap.size, 0, none⟩ = some (.slice a ws.length c) := by rw [hw1]; exact cell_old _ x0
  have y1 : w1.cell? ⟨w.heap.size, 1, none⟩ = some (.int .i64 q) := by rw [hw1]; exact cell_old _ x1
  have HB1 := Lib.hid (show Below w.heap.size w w1 by rw [hw1]; exact HB0.out.alloc (by omega) _)
  have hown1 : w1.ownsRow (w.heap.size + 1) 3 1 (.slice (some ⟨w0.heap.size, 0, none⟩) 0 0) 0 [] := by rw [hw1]; exact World.ownsRow_made (base := w.heap.size + 1) (e := 3) (size := 1) w0 #[] 0 s0 (by unfold maxLen; omega) rfl
  have s1 : w.heap.size + 1 ≤ w1.heap.size := by rw [hw1]; simp; omega
  have hzz0 : (w.alloc (.cells #[.slice a ws.length c, .int .i64 q] 34)).heap.size = w.heap.size + 1 := by simp
  rw [hw0, hzz0] at hown1
  go_wp2_with fail
  rw [← hw0, ← hw1]
  clear hw0 hw1 x0 x1 hzz0
  refine (HW.out _ HB1.out).mono ?_
  rintro e w2 ⟨v, rfl, how, hb2⟩
  obtain ⟨gb, cb, rfl, g1, g2, g3, g4, hcs⟩ := how.slice hp12.1
  have HB12 := Lib.hid hb2
  have HB2 := Lib.hid (HB1.out.trans (hb2.mono (by omega)))
  have s2 := hb2.size
  have HOW := Lib.hid how
  clear hb2 how HW
  have hown2 := ownsRow_block hown1 (fun g hg => (show w2.heap[g]? = w1.heap[g]? from by have := (hown1.lt g hg).2; exact HB12.out.block g this))
  have HT := Lib.hid (show tab ws q = tabTo ws q ws.length (2 ^ ws.length) from rfl)
  generalize 2 ^ ws.length = N at *
  clear hown1 HB12 y0 y1 hcs
  go_wp2_with fail
  go_loopw [3, 5] (fun v i wr => ∃ k : Nat, k ≤ N ∧ i = .int .i64 k ∧ wr.ownsRow (w.heap.size + 1) 3 1 v (tabTo ws q ws.length k).length ((tabTo ws q ws.length k).map (Value.int .i64)) ∧ OwnB w1.heap.size w2.heap.size wr (.slice (some ⟨gb, 0, none⟩) N cb) N (winB ws q) ∧ Below (w.heap.size + 1) w2 wr) (fun _ i _ => N - (intOf i).toNat)
  case atStart => exact ⟨0, Nat.zero_le _, rfl, hown2, HOW.out, Below.refl _ _⟩
  case round =>
    obtain ⟨k, hk, rfl, hown, how, hbel⟩ := hrel
    have HV := Lib.hid hown.lt
    have HBl := Lib.hid hbel
    have hsz := hbel.size
    have hlen : (tabTo ws q ws.length k).length ≤ 256 := by rw [tabTo_length]; omega
    clear hown2 HOW
    by_cases hlt : k < N
    · have HO := Lib.hid hown
      have HOW := Lib.hid how
      have HNE := Lib.hid (fun g (hg : u3.ownBlock = some g) => ownsRow_ne hown how.1 (by decide) hg)
      obtain ⟨gq, cq, he, _, _, _, _, hcr⟩ := how.slice hp12.1
      cases he
      have hcell := hcr k hlt
      clear hcr hown how
      have j3 : (0 : Int) ≤ (k : Int) := by omega
      have j4 : (k : Int) < (N : Int) := by omega
      cases hp : winB ws q k
      · have hp' := hp
        clear hp
        have HM := Lib.hid (show tabTo ws q ws.length (k + 1) = tabTo ws q ws.length k ++ [0] by rw [tabTo_succ, bit_win, hp']; rfl)
        rw [hp'] at hcell
        clear hp'
        generalize tabTo ws q ws.length k = ms at *
        go_wp2_with (at_builtin; refine wpList_append_own _ rfl _ _ 22 rfl (w.heap.size + 1) 3 i0 (.int .i64 0) 1 8 Try.underlying22 hi hz0 hz1 hz2 rfl (by decide) _ _ _ rfl (HO.out.alloc _) ⟨wr.heap.size, 0, none⟩ 1 1 [.int .i64 0] rfl rfl (cell_one_new _ _ _) (by simp [Value.oneCell']) (by unfold maxLen; omega) (by omega) (by simp; omega) ?_; intro v' w4 hown' hgrow _)
        have HO2 := Lib.hid hown'
        have HOW2 := Lib.hid (keep_other hgrow HOW.out (fun g hg hr => HNE.out g hr hg))
        have HB2' := Lib.hid ((HBl.out.alloc (by omega) _).grown hgrow (by simp; omega) (fun g e => by have := (HV.out g e).1; omega))
        clear hown' hgrow
        go_wp2_with fail
        go_roundw
        case rel => exact ⟨k + 1, by omega, by go_num, by rw [HM.out, List.map_append, List.length_append]; exact HO2.out, HOW2.out, HB2'.out⟩
        case measure => simp [intOf]; omega
      · have hp' := hp
        clear hp
        have HM := Lib.hid (show tabTo ws q ws.length (k + 1) = tabTo ws q ws.length k ++ [1] by rw [tabTo_succ, bit_win, hp']; rfl)
        rw [hp'] at hcell
        clear hp'
        generalize tabTo ws q ws.length k = ms at *
        go_wp2_with (at_builtin; refine wpList_append_own _ rfl _ _ 22 rfl (w.heap.size + 1) 3 i0 (.int .i64 0) 1 8 Try.underlying22 hi hz0 hz1 hz2 rfl (by decide) _ _ _ rfl (HO.out.alloc _) ⟨wr.heap.size, 0, none⟩ 1 1 [.int .i64 1] rfl rfl (cell_one_new _ _ _) (by simp [Value.oneCell']) (by unfold maxLen; omega) (by omega) (by simp; omega) ?_; intro v' w4 hown' hgrow _)
        have HO2 := Lib.hid hown'
        have HOW2 := Lib.hid (keep_other hgrow HOW.out (fun g hg hr => HNE.out g hr hg))
        have HB2' := Lib.hid ((HBl.out.alloc (by omega) _).grown hgrow (by simp; omega) (fun g e => by have := (HV.out g e).1; omega))
        clear hown' hgrow
        go_wp2_with fail
        go_roundw
        case rel => exact ⟨k + 1, by omega, by go_num, by rw [HM.out, List.map_append, List.length_append]; exact HO2.out, HOW2.out, HB2'.out⟩
        case measure => simp [intOf]; omega
    · obtain rfl : k = N := by omega
      have HF := Lib.hid (show intfns.Made (tab ws q) w (.returned u3) wr from ⟨u3, rfl, by rw [HT.out]; exact (OwnI.of hown).mono (by omega) (Nat.le_refl _), HB2.out.trans (hbel.mono (by omega))⟩)
      clear hown hbel how
      go_wp2_with fail
      go_ret
      exact HF.out
end Go.Proofs.Ytobdapalllaceaa.toldv
