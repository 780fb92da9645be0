/- The walks of VetoVoters: the model's and the program's. -/
import Derived.Test.YtkcpncngkmnmdaaOutOf
import Derived.Laws.Rows
namespace Go.Proofs.Ytkcpncngkmnmdaa.vetow
open Go.RowKit own pp nums pv bitw mk wins ownb bitn outc
set_option linter.unusedVariables false
set_option linter.unusedSimpArgs false

theorem keep_other {wr w3 : World} {o : Obj} {row : Option Nat} (hg : (wr.alloc o).grownBy w3 row) {lo hi : Nat} {v : Value} {n : Nat} {p : Nat → Bool} (h : OwnB lo hi wr v n p) (hne : ∀ g, v.ownBlock = some g → row ≠ some g) : OwnB lo hi w3 v n p :=
  h.block fun g hgv => (hg.block g (by simp; have := h.lt hgv; omega) (fun e => hne g hgv e.symm)).trans (by
    have hl := (h.lt hgv).2.2
    show (wr.heap.push o)[g]? = wr.heap[g]?
    rw [Array.getElem?_push, if_neg (by omega)])
/-- A voter has a veto: all others together lose. -/
def vetoB (win : Nat → Bool) (n i : Nat) : Bool := !(win (off (2 ^ n - 1) i))
theorem all_dg : ∀ n : Fin 9, ∀ i : Fin 8, i.val < n.val → dg (2 ^ n.val - 1) i.val = 1 := by decide +kernel
theorem xor_all {n i : Nat} (h8 : n ≤ 8) (hi : i < n) : Go.bits .xor .i64 (((2 ^ n : Nat) : Int) - 1) ((2 ^ i : Nat) : Int) = ((off (2 ^ n - 1) i : Nat) : Int) := by
  have h1 := bits8.pow8 h8
  have h2 := bits8.pow8 (n := i) (by omega)
  rw [show ((2 ^ n : Nat) : Int) - 1 = ((2 ^ n - 1 : Nat) : Int) by omega, xor_nat (2 ^ n - 1) (2 ^ i) (by omega) (by omega), xor_off (2 ^ n - 1) i (by omega) (by omega) (all_dg ⟨n, by omega⟩ ⟨i, by omega⟩ hi)]
set_option maxRecDepth 100000 in
set_option maxHeartbeats 4000000 in
theorem spec_vetoes (a : Option Addr) (ws : List Int) (c : Nat) (q : Int) (w : World) (hr : ints.Reads .i64 w a ws) (hn : ws.length ≤ 1048576) (hk : voteB ws q = true) :
    Calls Try.prog 67 #[.agg #[.slice a ws.length c, .int .i64 q]] w (intfns.Made (pwh.placesTo (vetoB (winB ws q) ws.length) ws.length) w) := by
  obtain ⟨i0, hi, hz0, hz1, hz2⟩ := info_parts mk.infoInt
  have h18 := ((vote_iff _ _).1 hk).1
  have hzz := ((vote_iff _ _).1 hk).2.1
  have hp12 := bits8.pow8 h18.2
  have HW := Lib.hid (fun (wa : World) (hb : Below w.heap.size w wa) => wins.spec_wins a ws c q wa (hr.below hb) hn h18.2 hzz)
  have HVE := Lib.hid (fun (win : Nat → Bool) i => show vetoB win ws.length i = !(win (off (2 ^ ws.length - 1) i)) from rfl)
  have HX := Lib.hid (fun i (hi : i < ws.length) => xor_all h18.2 hi)
  clear hr hk
  go_enter Try.func67, Try.ntmps67
  obtain ⟨w0, hw0⟩ : ∃ w0 : World, w0 = w.alloc (.cells #[.slice a ws.length c, .int .i64 q] 29) := ⟨_, rfl⟩
  have x0 : w0.cell? ⟨w.heap.size, 0, none⟩ = some (.slice a ws.length c) := by rw [hw0]; exact cell_new _ _ _ rfl rfl
  have x1 : w0.cell? ⟨w.heap.size, 1, none⟩ = some (.int .i64 q) := by rw [hw0]; exact cell_new _ _ _ rfl rfl
  have HB0 := Lib.hid (show Below w.heap.size w w0 by rw [hw0]; exact below_alloc w (.cells #[.slice a ws.length c, .int .i64 q] 29))
  have s0 : w.heap.size + 1 ≤ w0.heap.size := by rw [hw0]; simp
  obtain ⟨w1, hw1⟩ : ∃ w1 : World, w1 = w0.alloc (.cells #[] 3) := ⟨_, rfl⟩
  have y0 : w1.cell? ⟨w.heap.size, 0, none⟩ = some (.slice a ws.length c) := by rw [hw1]; exact cell_old _ x0
  have y1 : w1.cell? ⟨w.heap.size, 1, none⟩ = some (.int .i64 q) := by rw [hw1]; exact cell_old _ x1
  have HB1 := Lib.hid (show Below w.heap.size w w1 by rw [hw1]; exact HB0.out.alloc (by omega) _)
  have hown1 : w1.ownsRow (w.heap.size + 1) 3 1 (.slice (some ⟨w0.heap.size, 0, none⟩) 0 0) 0 [] := by rw [hw1]; exact World.ownsRow_made (base := w.heap.size + 1) (e := 3) (size := 1) w0 #[] 0 s0 (by unfold maxLen; omega) rfl
  have s1 : w.heap.size + 1 ≤ w1.heap.size := by rw [hw1]; simp; omega
  have hzz0 : (w.alloc (.cells #[.slice a ws.length c, .int .i64 q] 29)).heap.size = w.heap.size + 1 := by simp
  rw [hw0, hzz0] at hown1
  go_wp2_with fail
  rw [← hw0, ← hw1]
  clear hw0 hw1 x0 x1 hzz0
  refine (HW.out _ HB1.out).mono ?_
  rintro e w2 ⟨v, rfl, how, hb2⟩
  obtain ⟨gb, cb, rfl, g1, g2, g3, g4, hcs⟩ := how.slice hp12.1
  have z0 := cell_below hb2 y0 (by omega)
  have z1 := cell_below hb2 y1 (by omega)
  have HB12 := Lib.hid hb2
  have HB2 := Lib.hid (HB1.out.trans (hb2.mono (by omega)))
  have s2 := hb2.size
  have HOW := Lib.hid how
  clear hb2 how HW
  have hown2 := ownsRow_block hown1 (fun g hg => (show w2.heap[g]? = w1.heap[g]? from by have := (hown1.lt g hg).2; exact HB12.out.block g this))
  have HZN := Lib.hid (fun i => HVE.out (winB ws q) i)
  have HOL := Lib.hid (fun i => off_le (2 ^ ws.length - 1) i)
  generalize winB ws q = win at *
  obtain ⟨N, hN⟩ : ∃ N : Nat, 2 ^ ws.length = N := ⟨_, rfl⟩
  rw [hN] at hcs HX HOW HZN HOL hp12
  rw [hN]
  clear hN HVE
  have hp8 : ∀ i, i < ws.length → 1 ≤ 2 ^ i ∧ 2 ^ i ≤ 256 := fun i hi => bits8.pow8 (by omega)
  have HP8 := Lib.hid hp8
  clear hp8 hown1 HB12
  go_wp2_with fail
  go_loopw [3, 5] (fun v i wr => ∃ k : Nat, k ≤ ws.length ∧ i = .int .i64 k ∧ wr.ownsRow (w.heap.size + 1) 3 1 v (pwh.placesTo (vetoB win ws.length) k).length ((pwh.placesTo (vetoB win ws.length) k).map (Value.int .i64)) ∧ OwnB w1.heap.size w2.heap.size wr (.slice (some ⟨gb, 0, none⟩) N cb) N win ∧ Below (w.heap.size + 1) w2 wr) (fun _ i _ => ws.length - (intOf i).toNat)
  case atStart => exact ⟨0, Nat.zero_le _, rfl, hown2, HOW.out, Below.refl _ _⟩
  case round =>
    obtain ⟨k, hk, rfl, hown, how, hbel⟩ := hrel
    have HV := Lib.hid hown.lt
    have HBl := Lib.hid hbel
    have hsz := hbel.size
    have q0 := cell_below hbel z0 (by omega)
    have hlen := pwh.placesTo_length (vetoB win ws.length) k
    clear hown2 HOW
    by_cases hlt : k < ws.length
    · have HO := Lib.hid hown
      have HOW := Lib.hid how
      have HNE := Lib.hid (fun g (hg : u3.ownBlock = some g) => ownsRow_ne hown how.1 (by decide) hg)
      obtain ⟨gq, cq, he, _, _, _, _, hcr⟩ := how.slice hp12.1
      cases he
      have hol := HOL.out k
      have hcell := hcr (off (N - 1) k) (by omega)
      have hx := HX.out k hlt
      have hpk := HP8.out k hlt
      have HE := Lib.hid (HZN.out k)
      obtain ⟨I, hI⟩ : ∃ I : Nat, 2 ^ k = I := ⟨_, rfl⟩
      have hI2 : (2 : Int) ^ k = (I : Int) := by rw [← hI]; simp
      rw [hI] at hx hpk
      clear hI hcr hown how
      generalize off (N - 1) k = o at *
      have j3 : (0 : Int) ≤ (o : Int) := by omega
      have j4 : (o : Int) < (N : Int) := by omega
      cases hp : vetoB win ws.length k
      · have HM := Lib.hid (pwh.placesTo_miss _ k hp)
        have e : win o = true := by have := HE.out; rw [hp] at this; simpa using this.symm
        rw [e] at hcell
        clear hp e HE
        generalize pwh.placesTo (vetoB win ws.length) k = ms at *
        go_wp2_with fail
        go_roundw
        case rel => exact ⟨k + 1, by omega, by go_num, by rw [HM.out]; exact HO.out, HOW.out, HBl.out⟩
        case measure => simp [intOf]; omega
      · have HM := Lib.hid (pwh.placesTo_hit _ k hp)
        have e : win o = false := by have := HE.out; rw [hp] at this; simpa using this.symm
        rw [e] at hcell
        clear hp e HE
        generalize pwh.placesTo (vetoB win ws.length) k = ms at *
        go_wp2_with (at_builtin; refine wpList_append_own _ rfl _ _ 22 rfl (w.heap.size + 1) 3 i0 (.int .i64 0) 1 8 Try.underlying22 hi hz0 hz1 hz2 rfl (by decide) _ _ _ rfl (HO.out.alloc _) ⟨wr.heap.size, 0, none⟩ 1 1 [.int .i64 (k : Nat)] rfl rfl (cell_one_new _ _ _) (by simp [Value.oneCell']) (by unfold maxLen; omega) (by omega) (by simp; omega) ?_; intro v' w4 hown' hgrow _)
        have HO2 := Lib.hid hown'
        have HOW2 := Lib.hid (keep_other hgrow HOW.out (fun g hg hr => HNE.out g hr hg))
        have HB2' := Lib.hid ((HBl.out.alloc (by omega) _).grown hgrow (by simp; omega) (fun g e => by have := (HV.out g e).1; omega))
        clear hown' hgrow
        go_wp2_with fail
        go_roundw
        case rel => exact ⟨k + 1, by omega, by go_num, by rw [HM.out, List.map_append, List.length_append]; exact HO2.out, HOW2.out, HB2'.out⟩
        case measure => simp [intOf]; omega
    · obtain rfl : k = ws.length := by omega
      have HF := Lib.hid (show intfns.Made (pwh.placesTo (vetoB win ws.length) ws.length) w (.returned u3) wr from ⟨u3, rfl, (OwnI.of hown).mono (by omega) (Nat.le_refl _), HB2.out.trans (hbel.mono (by omega))⟩)
      clear hown hbel how
      go_wp2_with fail
      go_ret
      exact HF.out
set_option maxRecDepth 100000 in
set_option maxHeartbeats 4000000 in
theorem spec_no (a : Option Addr) (ws : List Int) (c : Nat) (q : Int) (w : World) (hr : ints.Reads .i64 w a ws) (hn : ws.length ≤ 1048576) (hk : voteB ws q = false) :
    Calls Try.prog 37 #[.agg #[.slice a ws.length c, .int .i64 q]] w (RetIB [] false w) := by
  have HV := Lib.hid (fun (wa : World) (hb : Below w.heap.size w wa) => vote.spec_vote a ws c q wa (hr.below hb) hn false (Lib.hid hk))
  clear hr hk
  go_enter Try.func37, Try.ntmps37
  obtain ⟨w0, hw0⟩ : ∃ w0 : World, w0 = w.alloc (.cells #[.slice a ws.length c, .int .i64 q] 29) := ⟨_, rfl⟩
  have x0 : w0.cell? ⟨w.heap.size, 0, none⟩ = some (.slice a ws.length c) := by rw [hw0]; exact cell_new _ _ _ rfl rfl
  have x1 : w0.cell? ⟨w.heap.size, 1, none⟩ = some (.int .i64 q) := by rw [hw0]; exact cell_new _ _ _ rfl rfl
  have HB0 := Lib.hid (show Below w.heap.size w w0 by rw [hw0]; exact below_alloc w (.cells #[.slice a ws.length c, .int .i64 q] 29))
  have s0 : w.heap.size + 1 ≤ w0.heap.size := by rw [hw0]; simp
  go_wp2_with fail
  rw [← hw0]
  clear hw0
  refine (HV.out _ HB0.out).mono ?_
  rintro e w1 ⟨rfl, hb1⟩
  have y0 := cell_below hb1 x0 (by omega)
  have y1 := cell_below hb1 x1 (by omega)
  have HB1 := Lib.hid (HB0.out.trans (hb1.mono (by omega)))
  have s1 := hb1.size
  clear hb1 x0 x1 HV
  go_wp2_with fail
  go_ret2
  exact ret_empty HB1.out
set_option maxRecDepth 100000 in
set_option maxHeartbeats 4000000 in
theorem spec_yes (a : Option Addr) (ws : List Int) (c : Nat) (q : Int) (w : World) (hr : ints.Reads .i64 w a ws) (hn : ws.length ≤ 1048576) (hk : voteB ws q = true) :
    Calls Try.prog 37 #[.agg #[.slice a ws.length c, .int .i64 q]] w (RetIB (pwh.placesTo (vetoB (winB ws q) ws.length) ws.length) true w) := by
  have HV := Lib.hid (fun (wa : World) (hb : Below w.heap.size w wa) => vote.spec_vote a ws c q wa (hr.below hb) hn true (Lib.hid hk))
  have HW := Lib.hid (fun (wa : World) (hb : Below w.heap.size w wa) => spec_vetoes a ws c q wa (hr.below hb) hn hk)
  clear hr hk
  go_enter Try.func37, Try.ntmps37
  obtain ⟨w0, hw0⟩ : ∃ w0 : World, w0 = w.alloc (.cells #[.slice a ws.length c, .int .i64 q] 29) := ⟨_, rfl⟩
  have x0 : w0.cell? ⟨w.heap.size, 0, none⟩ = some (.slice a ws.length c) := by rw [hw0]; exact cell_new _ _ _ rfl rfl
  have x1 : w0.cell? ⟨w.heap.size, 1, none⟩ = some (.int .i64 q) := by rw [hw0]; exact cell_new _ _ _ rfl rfl
  have HB0 := Lib.hid (show Below w.heap.size w w0 by rw [hw0]; exact below_alloc w (.cells #[.slice a ws.length c, .int .i64 q] 29))
  have s0 : w.heap.size + 1 ≤ w0.heap.size := by rw [hw0]; simp
  go_wp2_with fail
  rw [← hw0]
  clear hw0
  refine (HV.out _ HB0.out).mono ?_
  rintro e w1 ⟨rfl, hb1⟩
  have y0 := cell_below hb1 x0 (by omega)
  have y1 := cell_below hb1 x1 (by omega)
  have HB1 := Lib.hid (HB0.out.trans (hb1.mono (by omega)))
  have s1 := hb1.size
  clear hb1 x0 x1 HV
  go_wp2_with fail
  refine (HW.out _ HB1.out).mono ?_
  rintro e w2 ⟨v, rfl, ho, hb2⟩
  have HF := Lib.hid (show RetIB (pwh.placesTo (vetoB (winB ws q) ws.length) ws.length) true w (.returned (.tuple #[v, .bool true])) w2 from ⟨v, rfl, ho.mono (by omega) (Nat.le_refl _), HB1.out.trans (hb2.mono (by omega))⟩)
  clear ho hb2
  go_wp2_with fail
  go_ret2
  exact HF.out
set_option maxRecDepth 100000 in
set_option maxHeartbeats 4000000 in
theorem impl_any (a : Option Addr) (ws : List Int) (c : Nat) (q : Int) (w : World) (hr : ints.Reads .i64 w a ws) (hn : ws.length ≤ 1048576) {n : Nat} {win : Nat → Bool} {ok : Bool} (hd : OfV ws q n win ok) :
    Calls Try.prog 38 #[.agg #[.slice a ws.length c, .int .i64 q]] w (RetIB (pwh.placesTo (vetoB win n) n) ok w) := by
  have HOF := Lib.hid (fun (wa : World) (hb : Below w.heap.size w wa) => of_data a ws c q wa (hr.below hb) hn hd)
  have h8 := hd.le
  clear hr hd
  go_enter Try.func38, Try.ntmps38
  obtain ⟨w0, hw0⟩ : ∃ w0 : World, w0 = w.alloc (.cells #[.slice a ws.length c, .int .i64 q] 29) := ⟨_, rfl⟩
  have x0 : w0.cell? ⟨w.heap.size, 0, none⟩ = some (.slice a ws.length c) := by rw [hw0]; exact cell_new _ _ _ rfl rfl
  have x1 : w0.cell? ⟨w.heap.size, 1, none⟩ = some (.int .i64 q) := by rw [hw0]; exact cell_new _ _ _ rfl rfl
  have HB0 := Lib.hid (show Below w.heap.size w w0 by rw [hw0]; exact below_alloc w (.cells #[.slice a ws.length c, .int .i64 q] 29))
  have s0 : w.heap.size + 1 ≤ w0.heap.size := by rw [hw0]; simp
  go_wp2_with fail
  rw [← hw0]
  clear hw0
  refine (HOF.out _ HB0.out).mono ?_
  rintro e w1 ⟨rfl, hb1⟩
  have HB1 := Lib.hid (HB0.out.trans (hb1.mono (by omega)))
  have s1 := hb1.size
  clear hb1 x0 x1 HOF
  go_wp2_with (refine wp_alloc rfl rfl ?_; intro w2 hbx2 hb2 hz2; refine Hid.out ?_)
  have HB2 := Lib.hid (HB1.out.trans (hb2.mono (by omega)))
  clear hb2
  refine Lib.hid ?_
  go_wp2_with (refine wp_store rfl _ _ rfl w1.heap.size n (upto win (2 ^ n)) rfl rfl 0 no hbx2 ?_; intro w3 hbx3 ho3 hz3; refine Hid.out ?_)
  have HB3 := Lib.hid (HB2.out.trans ((ho3.below (by omega)).mono (by omega)))
  have s3 : w1.heap.size < w3.heap.size := by omega
  clear ho3 hbx2
  refine Lib.hid ?_
  go_wp2_with (refine wp_load rfl _ rfl w1.heap.size n (upto win (2 ^ n)) rfl hbx3 ?_)
  have HCW := Lib.hid (votersB 69 (enters_of Try.func69 (by kernel_rfl) rfl) (.agg (oc n (upto win (2 ^ n)))) n (upto win (2 ^ n)) (vetoB win n) w3 h8 (Lib.hid (fun k wr hk hb => by
    have hp := bits8.pow8 h8
    have hol := off_le (2 ^ n - 1) k
    exact veto_any n (upto win (2 ^ n)) k wr h8 hk (vetoB win n k) (Lib.hid (by rw [upto_at _ _ _ (by omega)]; rfl)))))
  clear hbx3
  go_wp2_with fail
  refine HCW.out.mono ?_
  rintro e w4 ⟨v, rfl, ho, hb4⟩
  have HF := Lib.hid (show RetIB (pwh.placesTo (vetoB win n) n) ok w (.returned (.tuple #[v, .bool ok])) w4 from ⟨v, rfl, ho.mono (by omega) (Nat.le_refl _), HB3.out.trans (hb4.mono (by omega))⟩)
  clear ho hb4
  go_wp2_with fail
  go_ret2
  exact HF.out
end Go.Proofs.Ytkcpncngkmnmdaa.vetow
