/- The walks of DummiesOf: the model's and the program's. -/
import Derived.Test.YtkcpncngkmnmdaaSwingW
import Derived.Deep.AppendLies
namespace Go.Proofs.Ytkcpncngkmnmdaa.dummy
open Go.RowKit own pp nums pv bitw mk wins ownb bitn outc psw
set_option linter.unusedVariables false
set_option linter.unusedSimpArgs false

/-- A list that was made apart from the one that has grown. -/
theorem keep_ints {wr w3 : World} {o : Obj} {row : Option Nat} (hg : (wr.alloc o).grownBy w3 row) {lo hi : Nat} {v : Value} {zs : List Int} (h : OwnI lo hi wr v zs) (hne : ∀ g, row = some g → g < lo ∨ hi ≤ g) : OwnI lo hi w3 v zs :=
  h.block fun g hgv => (hg.block g (by simp; have := h.lt hgv; omega) (fun e => by have := hne g e.symm; have := h.lt hgv; omega)).trans (by
    have hl := (h.lt hgv).2.2
    show (wr.heap.push o)[g]? = wr.heap[g]?
    rw [Array.getElem?_push, if_neg (by omega)])
/-- A voter without swings. -/
def dumB (zs : List Int) (i : Nat) : Bool := decide (zs.getD i 0 = 0)
set_option maxRecDepth 100000 in
set_option maxHeartbeats 4000000 in
theorem spec_no (a : Option Addr) (ws : List Int) (c : Nat) (q : Int) (w : World) (hr : ints.Reads .i64 w a ws) (hn : ws.length ≤ 1048576) (hk : voteB ws q = false) :
    Calls Try.prog 35 #[.agg #[.slice a ws.length c, .int .i64 q]] w (RetIB [] false w) := by
  have HV := Lib.hid (fun (wa : World) (hb : Below w.heap.size w wa) => vote.spec_vote a ws c q wa (hr.below hb) hn false (Lib.hid hk))
  clear hr hk
  go_enter Try.func35, Try.ntmps35
  obtain ⟨w0, hw0⟩ : ∃ w0 : World, w0 = w.alloc (.cells #[.slice a ws.length c, .int .i64 q] 29) := ⟨_, rfl⟩
  have x0 : w0.cell? ⟨w.heap.size, 0, none⟩ = some (.slice a ws.length c) := by rw [hw0]; exact cell_new _ _ _ rfl rfl
  have x1 : w0.cell? ⟨w.heap.size, 1, none⟩ = some (.int .i64 q) := by rw [hw0]; exact cell_new _ _ _ rfl rfl
  have HB0 := Lib.hid (show Below w.heap.size w w0 by rw [hw0]; exact below_alloc w (.cells #[.slice a ws.length c, .int .i64 q] 29))
  have s0 : w.heap.size + 1 ≤ w0.heap.size := by rw [hw0]; simp
  obtain ⟨w1, hw1⟩ : ∃ w1 : World, w1 = w0.alloc (.cells #[] 3) := ⟨_, rfl⟩
  have y0 : w1.cell? ⟨w.heap.size, 0, none⟩ = some (.slice a ws.length c) := by rw [hw1]; exact cell_old _ x0
  have y1 : w1.cell? ⟨w.heap.size, 1, none⟩ = some (.int .i64 q) := by rw [hw1]; exact cell_old _ x1
  have HB1 := Lib.hid (show Below w.heap.size w w1 by rw [hw1]; exact HB0.out.alloc (by omega) _)
  have hown1 : w1.ownsRow (w.heap.size + 1) 3 1 (.slice (some ⟨w0.heap.size, 0, none⟩) 0 0) 0 [] := by rw [hw1]; exact World.ownsRow_made (base := w.heap.size + 1) (e := 3) (size := 1) w0 #[] 0 s0 (by unfold maxLen; omega) rfl
  have s1 : w.heap.size + 2 ≤ w1.heap.size := by rw [hw1]; simp; omega
  have hzz0 : (w.alloc (.cells #[.slice a ws.length c, .int .i64 q] 29)).heap.size = w.heap.size + 1 := by simp
  rw [hw0, hzz0] at hown1
  go_wp2_with fail
  rw [← hw0, ← hw1]
  clear hw0 hw1 x0 x1 hzz0
  refine (HV.out _ HB1.out).mono ?_
  rintro e w2 ⟨rfl, hb2⟩
  have z0 := cell_below hb2 y0 (by omega)
  have z1 := cell_below hb2 y1 (by omega)
  have HB2 := Lib.hid (HB1.out.trans (hb2.mono (by omega)))
  have hown2 := ownsRow_block hown1 (fun g hg => hb2.block g (hown1.lt g hg).2)
  have s2 := hb2.size
  clear hb2 y0 y1 hown1 HV
  have HF := Lib.hid (show RetIB [] false w (.returned (.tuple #[.slice (some ⟨w.heap.size + 1, 0, none⟩) 0 0, .bool false])) w2 from ⟨_, rfl, (OwnI.of (zs := []) hown2).mono (by omega) (Nat.le_refl _), HB2.out⟩)
  clear hown2
  go_wp2_with fail
  go_ret2
  exact HF.out
set_option maxRecDepth 100000 in
set_option maxHeartbeats 4000000 in
theorem spec_yes (a : Option Addr) (ws : List Int) (c : Nat) (q : Int) (w : World) (hr : ints.Reads .i64 w a ws) (hn : ws.length ≤ 1048576) (hk : voteB ws q = true) :
    Calls Try.prog 35 #[.agg #[.slice a ws.length c, .int .i64 q]] w (RetIB (pwh.placesTo (dumB (row (winB ws q) one ws.length (2 ^ ws.length) 0)) ws.length) true w) := by
  obtain ⟨i0, hi, hz0, hz1, hz2⟩ := info_parts mk.infoInt
  have HV := Lib.hid (fun (wa : World) (hb : Below w.heap.size w wa) => vote.spec_vote a ws c q wa (hr.below hb) hn true (Lib.hid hk))
  have h18 := ((vote_iff _ _).1 hk).1
  have HW := Lib.hid (fun (wa : World) (hb : Below w.heap.size w wa) => swing.spec_once a ws c q wa (hr.below hb) hn h18.2 ((vote_iff _ _).1 hk).2.1)
  have hrl := row_length (winB ws q) one ws.length (2 ^ ws.length) 0
  generalize row (winB ws q) one ws.length (2 ^ ws.length) 0 = zs at *
  have HRL := Lib.hid hrl
  clear hr hk hrl
  go_enter Try.func35, Try.ntmps35
  obtain ⟨w0, hw0⟩ : ∃ w0 : World, w0 = w.alloc (.cells #[.slice a ws.length c, .int .i64 q] 29) := ⟨_, rfl⟩
  have x0 : w0.cell? ⟨w.heap.size, 0, none⟩ = some (.slice a ws.length c) := by rw [hw0]; exact cell_new _ _ _ rfl rfl
  have x1 : w0.cell? ⟨w.heap.size, 1, none⟩ = some (.int .i64 q) := by rw [hw0]; exact cell_new _ _ _ rfl rfl
  have HB0 := Lib.hid (show Below w.heap.size w w0 by rw [hw0]; exact below_alloc w (.cells #[.slice a ws.length c, .int .i64 q] 29))
  have s0 : w.heap.size + 1 ≤ w0.heap.size := by rw [hw0]; simp
  obtain ⟨w1, hw1⟩ : ∃ w1 : World, w1 = w0.alloc (.cells #[] 3) := ⟨_, rfl⟩
  have y0 : w1.cell? ⟨w.heap.size, 0, none⟩ = some (.slice a ws.length c) := by rw [hw1]; exact cell_old _ x0
  have y1 : w1.cell? ⟨w.heap.size, 1, none⟩ = some (.int .i64 q) := by rw [hw1]; exact cell_old _ x1
  have HB1 := Lib.hid (show Below w.heap.size w w1 by rw [hw1]; exact HB0.out.alloc (by omega) _)
  have hown1 : w1.ownsRow (w.heap.size + 1) 3 1 (.slice (some ⟨w0.heap.size, 0, none⟩) 0 0) 0 [] := by rw [hw1]; exact World.ownsRow_made (base := w.heap.size + 1) (e := 3) (size := 1) w0 #[] 0 s0 (by unfold maxLen; omega) rfl
  have s1 : w.heap.size + 2 ≤ w1.heap.size := by rw [hw1]; simp; omega
  have hzz0 : (w.alloc (.cells #[.slice a ws.length c, .int .i64 q] 29)).heap.size = w.heap.size + 1 := by simp
  rw [hw0, hzz0] at hown1
  go_wp2_with fail
  rw [← hw0, ← hw1]
  clear hw0 hw1 x0 x1 hzz0
  refine (HV.out _ HB1.out).mono ?_
  rintro e w2 ⟨rfl, hb2⟩
  have z0 := cell_below hb2 y0 (by omega)
  have z1 := cell_below hb2 y1 (by omega)
  have HB2 := Lib.hid (HB1.out.trans (hb2.mono (by omega)))
  have hown2 := ownsRow_block hown1 (fun g hg => hb2.block g (hown1.lt g hg).2)
  have s2 := hb2.size
  clear hb2 y0 y1 hown1 HV
  go_wp2_with fail
  refine (HW.out _ HB2.out).mono ?_
  rintro e w3 ⟨v, rfl, hos, hb3⟩
  obtain ⟨sp, sc, rfl, _, _, _⟩ := hos.slice
  have HB3 := Lib.hid (HB2.out.trans (hb3.mono (by omega)))
  have hown3 := ownsRow_block hown2 (fun g hg => hb3.block g (hown2.lt g hg).2)
  have s3 := hb3.size
  have HOS := Lib.hid hos
  have hown2' : ∀ g, (Value.slice (some ⟨w.heap.size + 1, 0, none⟩) 0 0).ownBlock = some g → g < w2.heap.size := fun g e => (hown2.lt g e).2
  clear hb3 hos hown2 z0 z1
  rw [HRL.out]
  go_wp2_with fail
  go_loopw [4, 6] (fun v i wr => ∃ k : Nat, k ≤ ws.length ∧ i = .int .i64 k ∧ wr.ownsRow (w.heap.size + 1) 3 1 v (pwh.placesTo (dumB zs) k).length ((pwh.placesTo (dumB zs) k).map (Value.int .i64)) ∧ (∀ g, v.ownBlock = some g → g < w2.heap.size ∨ w3.heap.size ≤ g) ∧ Below (w.heap.size + 1) w3 wr ∧ w3.heap.size ≤ wr.heap.size ∧ OwnI w2.heap.size w3.heap.size wr (.slice sp zs.length sc) zs) (fun _ i _ => ws.length - (intOf i).toNat)
  case atStart => exact ⟨0, Nat.zero_le _, rfl, hown3, fun g hg => by have := hown2' g hg; omega, Below.refl _ _, Nat.le_refl _, HOS.out⟩
  case round =>
    obtain ⟨k, hk, rfl, hown, hat0, hbel, hsz, hos⟩ := hrel
    have HAT := Lib.hid hat0
    have HV := Lib.hid hown.lt
    have HBl := Lib.hid hbel
    have HOS := Lib.hid hos
    have hlen := pwh.placesTo_length (dumB zs) k
    clear hown3 hat0 hown2'
    by_cases hlt : k < ws.length
    · obtain ⟨b, off, rfl, hbl, hc⟩ := hos.reads.at (k := k) (by rw [HRL.out]; exact hlt)
      have HO := Lib.hid hown
      have HD := Lib.hid (show dumB zs k = decide (zs.getD k 0 = 0) from rfl)
      clear hown hbel hos
      cases hp : dumB zs k
      · have HM := Lib.hid (pwh.placesTo_miss _ k hp)
        have g1 : (zs.getD k 0 == 0) = false := by have := HD.out; rw [hp] at this; rw [beq_eq_false_iff_ne]; exact of_decide_eq_false this.symm
        clear hp HD
        generalize zs.getD k 0 = z at *
        generalize pwh.placesTo (dumB zs) k = ms at *
        go_wp2_with fail
        go_roundw
        case rel => exact ⟨k + 1, by omega, by go_num, by rw [HM.out]; exact HO.out, HAT.out, HBl.out, hsz, HOS.out⟩
        case measure => simp [intOf]; omega
      · have HM := Lib.hid (pwh.placesTo_hit _ k hp)
        have g1 : (zs.getD k 0 == 0) = true := by have := HD.out; rw [hp] at this; rw [beq_iff_eq]; exact of_decide_eq_true this.symm
        clear hp HD
        generalize zs.getD k 0 = z at *
        generalize pwh.placesTo (dumB zs) k = ms at *
        go_wp2_with (at_builtin; refine wpList_append_lies _ rfl _ _ 22 rfl (w.heap.size + 1) 3 i0 (.int .i64 0) 1 8 Try.underlying22 hi hz0 hz1 hz2 rfl (by decide) u4 ms.length (ms.map (Value.int .i64)) rfl (HO.out.alloc _) ⟨wr.heap.size, 0, none⟩ 1 1 [.int .i64 (k : Nat)] rfl rfl (cell_one_new _ _ _) (by simp [Value.oneCell']) (by omega) (by unfold maxLen; omega) (by omega) (by simp; omega) _ rfl ?_; intro gg cap w4 hown' hgrow hat _)
        have HO2 := Lib.hid hown'
        have HOS2 := Lib.hid (keep_ints hgrow HOS.out (fun g e => HAT.out g e))
        have HB2' := Lib.hid ((HBl.out.alloc (by omega) _).grown hgrow (by simp; omega) (fun g e => by have := (HV.out g e).1; omega))
        have hsz4 := hgrow.size
        have HAT2 := Lib.hid (show ∀ g, (Value.slice (some ⟨gg, 0, none⟩) (ms.length + 1) cap).ownBlock = some g → g < w2.heap.size ∨ w3.heap.size ≤ g from fun g e => by
          obtain rfl : gg = g := by simpa [Value.ownBlock] using e
          rcases hat with ha | ha
          · exact HAT.out gg ha
          · simp at ha; omega)
        have hsz5 : w3.heap.size ≤ w4.heap.size := by simp at hsz4; omega
        clear hown' hgrow hat hsz4
        go_wp2_with fail
        go_roundw
        case rel => exact ⟨k + 1, by omega, by go_num, by rw [HM.out, List.map_append, List.length_append]; exact HO2.out, HAT2.out, HB2'.out, hsz5, HOS2.out⟩
        case measure => simp [intOf]; omega
    · obtain rfl : k = ws.length := by omega
      have HF := Lib.hid (show RetIB (pwh.placesTo (dumB zs) ws.length) true w (.returned (.tuple #[u4, .bool true])) wr from ⟨u4, rfl, (OwnI.of hown).mono (by omega) (Nat.le_refl _), HB3.out.trans (hbel.mono (by omega))⟩)
      clear hown hbel hos
      go_wp2_with fail
      go_ret2
      exact HF.out
set_option maxHeartbeats 1000000 in
theorem du_closure (k : Nat) (b0 : Nat) (a : Option Addr) (zs : List Int) (c : Nat) (w : World) (hc0 : w.cell? ⟨b0, 0, none⟩ = some (.slice a zs.length c)) (hr : ints.Reads .i64 w a zs) (hk : k < zs.length) (hn : zs.length ≤ 1048576) :
    Calls Try.prog 66 #[.int .i64 k, .pointer (some ⟨b0, 0, none⟩)] w (fun e w' => e = .returned (.bool (dumB zs k)) ∧ Below w.heap.size w w') := by
  obtain ⟨b1, o1, rfl, _, hc1⟩ := hr.at hk
  have HD := Lib.hid (show dumB zs k = decide (zs.getD k 0 = 0) from rfl)
  clear hr
  generalize zs.getD k 0 = s at *
  have i1 : (0 : Int) ≤ (k : Int) := by omega
  have i2 : (k : Int) < (zs.length : Int) := by omega
  go_enter Try.func66, Try.ntmps66
  go_wp2_with fail
  go_ret
  exact ⟨by rw [HD.out]; rfl, Below.refl _ _⟩
set_option maxRecDepth 100000 in
set_option maxHeartbeats 4000000 in
theorem impl_any (a : Option Addr) (ws : List Int) (c : Nat) (q : Int) (w : World) (hr : ints.Reads .i64 w a ws) (hn : ws.length ≤ 1048576) {n : Nat} {win : Nat → Bool} {ok : Bool} (hd : OfV ws q n win ok) :
    Calls Try.prog 36 #[.agg #[.slice a ws.length c, .int .i64 q]] w (RetIB (pwh.placesTo (dumB (row win one n (2 ^ n) 0)) n) ok w) := by
  have HOF := Lib.hid (fun (wa : World) (hb : Below w.heap.size w wa) => swingw.sc_impl a ws c q wa (hr.below hb) hn hd)
  have h8 := hd.le
  have hrl := row_length win one n (2 ^ n) 0
  generalize row win one n (2 ^ n) 0 = zs at *
  have HRL := Lib.hid hrl
  clear hr hd hrl
  go_enter Try.func36, Try.ntmps36
  obtain ⟨w0, hw0⟩ : ∃ w0 : World, w0 = w.alloc (.cells #[.slice a ws.length c, .int .i64 q] 29) := ⟨_, rfl⟩
  have x0 : w0.cell? ⟨w.heap.size, 0, none⟩ = some (.slice a ws.length c) := by rw [hw0]; exact cell_new _ _ _ rfl rfl
  have x1 : w0.cell? ⟨w.heap.size, 1, none⟩ = some (.int .i64 q) := by rw [hw0]; exact cell_new _ _ _ rfl rfl
  have HB0 := Lib.hid (show Below w.heap.size w w0 by rw [hw0]; exact below_alloc w (.cells #[.slice a ws.length c, .int .i64 q] 29))
  have s0 : w.heap.size + 1 ≤ w0.heap.size := by rw [hw0]; simp
  go_wp2_with fail
  rw [← hw0]
  clear hw0
  refine (HOF.out _ HB0.out).mono ?_
  rintro e w1 ⟨v, rfl, ho, hb1⟩
  obtain ⟨sp, sc, rfl, _, _, _⟩ := ho.slice
  have HB1 := Lib.hid (HB0.out.trans (hb1.mono (by omega)))
  have s1 := hb1.size
  clear hb1 x0 x1 HOF
  rw [HRL.out]
  obtain ⟨w2, hw2⟩ : ∃ w2 : World, w2 = w1.alloc (.cells #[.slice sp n sc] 22) := ⟨_, rfl⟩
  have c2 : w2.cell? ⟨w1.heap.size, 0, none⟩ = some (.slice sp n sc) := by rw [hw2]; exact cell_new _ _ _ rfl rfl
  have hb2 : Below w1.heap.size w1 w2 := by rw [hw2]; exact below_alloc _ _
  have s2 : w1.heap.size < w2.heap.size := by rw [hw2]; simp
  have HB2 := Lib.hid (HB1.out.trans (hb2.mono (by omega)))
  have hrd := ho.reads.below hb2
  have HCW := Lib.hid (pwh.where1 66 (enters_of Try.func66 (by kernel_rfl) rfl) (.pointer (some ⟨w1.heap.size, 0, none⟩)) n (dumB zs) w2 (by omega) (Lib.hid (fun k wr hk hb => du_closure k w1.heap.size sp zs sc wr (by rw [HRL.out]; exact cell_below hb c2 s2) (hrd.below hb) (by rw [HRL.out]; exact hk) (by rw [HRL.out]; omega))))
  clear hrd hb2 ho
  go_wp2_with fail
  rw [← hw2]
  clear hw2
  refine HCW.out.mono ?_
  rintro e w4 ⟨v, rfl, ho, hb4⟩
  have HF := Lib.hid (show RetIB (pwh.placesTo (dumB zs) n) ok w (.returned (.tuple #[v, .bool ok])) w4 from ⟨v, rfl, ho.mono (by omega) (Nat.le_refl _), HB2.out.trans (hb4.mono (by omega))⟩)
  clear ho hb4
  go_wp2_with fail
  go_ret2
  exact HF.out
end Go.Proofs.Ytkcpncngkmnmdaa.dummy
