/- The walks of DictatorOf: the model's and the program's. -/
import Derived.Test.YtkcpncngkmnmdaaVetoW
import Derived.BigQuiet
namespace Go.Proofs.Ytkcpncngkmnmdaa.dict
open Go.RowKit own pp nums pv bitw mk wins ownb bitn outc vetow
set_option linter.unusedVariables false
set_option linter.unusedSimpArgs false

/-- A voter wins alone and has a veto. -/
def dictP (win : Nat → Bool) (n i : Nat) : Bool := win (2 ^ i) && vetoB win n i
/-- All such voters. -/
def dictL (win : Nat → Bool) (n : Nat) : List Int := pwh.placesTo (dictP win n) n
theorem pow_dg : ∀ i : Fin 8, ∀ j : Fin 8, 2 ^ i.val / 2 ^ j.val % 2 = (if j.val = i.val then 1 else 0) := by decide +kernel
theorem dot_pow {ws : List Int} (h8 : ws.length ≤ 8) {i : Nat} (hi : i < ws.length) : pp.dot ws (bitsTo (2 ^ i) ws.length) = ws.getD i 0 := by
  have key : ∀ k, k ≤ ws.length → pp.dotTo ws (bitsTo (2 ^ i) ws.length) k = if i < k then ws.getD i 0 else 0 := by
    intro k
    induction k with
    | zero => intro _; rfl
    | succ k ih =>
      intro hk
      have hd := pow_dg ⟨i, by omega⟩ ⟨k, by omega⟩
      simp only at hd
      rw [pp.dotTo_succ, ih (by omega), bits_getD _ _ _ (by omega), hd]
      by_cases e : k = i
      · subst e
        rw [if_pos rfl, if_neg (Nat.lt_irrefl _), if_pos (Nat.lt_succ_self _)]
        simp
      · rw [if_neg e]
        by_cases hlt : i < k
        · rw [if_pos hlt, if_pos (by omega)]; simp
        · rw [if_neg hlt, if_neg (by omega)]; simp
  have := key ws.length (Nat.le_refl _)
  rw [if_pos hi] at this
  exact this
theorem win_pow {ws : List Int} {q : Int} (h8 : ws.length ≤ 8) {i : Nat} (hi : i < ws.length) : winB ws q (2 ^ i) = decide (q ≤ ws.getD i 0) := by
  unfold winB; rw [dot_pow h8 hi]
/-- The places with vetoes, as numbers. -/
def vetN (win : Nat → Bool) (n : Nat) : List Nat := (List.range n).filter (vetoB win n)
theorem vet_map (win : Nat → Bool) (n : Nat) : pwh.placesTo (vetoB win n) n = (vetN win n).map fun i : Nat => (i : Int) := rfl
theorem vet_lt {win : Nat → Bool} {n k : Nat} (h : k < (vetN win n).length) : (vetN win n).getD k 0 < n := by
  have := pp.getD_mem (vetN win n) 0 k h
  exact List.mem_range.1 (List.mem_filter.1 this).1
theorem vet_at {win : Nat → Bool} {n k : Nat} (h : k < (vetN win n).length) : (pwh.placesTo (vetoB win n) n).getD k 0 = (((vetN win n).getD k 0 : Nat) : Int) := by
  rw [vet_map, List.getD_eq_getElem?_getD, List.getElem?_map, List.getElem?_eq_getElem h, List.getD_eq_getElem?_getD, List.getElem?_eq_getElem h]
  rfl
theorem vet_len (win : Nat → Bool) (n : Nat) : (pwh.placesTo (vetoB win n) n).length = (vetN win n).length := by rw [vet_map, List.length_map]
theorem dict_filter (win : Nat → Bool) (n : Nat) : dictL win n = ((vetN win n).filter fun i => win (2 ^ i)).map fun i : Nat => (i : Int) := by
  unfold dictL pwh.placesTo vetN
  rw [List.filter_filter]
  rfl
theorem filter_none {α : Type} {p : α → Bool} (d : α) {l : List α} (h : ∀ j, j < l.length → p (l.getD j d) = false) : l.filter p = [] := by
  rw [List.filter_eq_nil_iff]
  intro x hx
  obtain ⟨k, hk, e⟩ := pp.mem_getD l d x hx
  rw [← e, h k hk]
  simp
theorem filter_first {α : Type} {p : α → Bool} (d : α) {l : List α} {k : Nat} (hk : k < l.length) (h : ∀ j, j < k → p (l.getD j d) = false) (hp : p (l.getD k d) = true) : ∃ m, l.filter p = l.getD k d :: m := by
  have e : l = l.take k ++ l.getD k d :: l.drop (k + 1) := by
    rw [List.getD_eq_getElem?_getD, List.getElem?_eq_getElem hk, Option.getD_some, List.getElem_cons_drop, List.take_append_drop]
  have h1 : (l.take k).filter p = [] := filter_none d (fun j hj => by
    have hj2 : j < k := by rw [List.length_take] at hj; omega
    have e2 : (l.take k).getD j d = l.getD j d := by rw [List.getD_eq_getElem?_getD, List.getElem?_take, if_pos hj2, List.getD_eq_getElem?_getD]
    rw [e2]; exact h j hj2)
  refine ⟨(l.drop (k + 1)).filter p, ?_⟩
  rw [show l.filter p = (l.take k ++ l.getD k d :: l.drop (k + 1)).filter p from congrArg _ e, List.filter_append, h1, List.nil_append, List.filter_cons, if_pos hp]
set_option maxRecDepth 100000 in
set_option maxHeartbeats 4000000 in
theorem spec_no (a : Option Addr) (ws : List Int) (c : Nat) (q : Int) (w : World) (hr : ints.Reads .i64 w a ws) (hn : ws.length ≤ 1048576) (hk : voteB ws q = false) :
    Calls Try.prog 39 #[.agg #[.slice a ws.length c, .int .i64 q]] w (RetNB 0 false w) := by
  have HV := Lib.hid (fun (wa : World) (hb : Below w.heap.size w wa) => vote.spec_vote a ws c q wa (hr.below hb) hn false (Lib.hid hk))
  clear hr hk
  go_enter Try.func39, Try.ntmps39
  obtain ⟨w0, hw0⟩ : ∃ w0 : World, w0 = w.alloc (.cells #[.slice a ws.length c, .int .i64 q] 29) := ⟨_, rfl⟩
  have x0 : w0.cell? ⟨w.heap.size, 0, none⟩ = some (.slice a ws.length c) := by rw [hw0]; exact cell_new _ _ _ rfl rfl
  have x1 : w0.cell? ⟨w.heap.size, 1, none⟩ = some (.int .i64 q) := by rw [hw0]; exact cell_new _ _ _ rfl rfl
  have HB0 := Lib.hid (show Below w.heap.size w w0 by rw [hw0]; exact below_alloc w (.cells #[.slice a ws.length c, .int .i64 q] 29))
  have s0 : w.heap.size + 1 ≤ w0.heap.size := by rw [hw0]; simp
  go_wp2_with fail
  rw [← hw0]
  clear hw0
  refine (HV.out _ HB0.out).mono ?_
  rintro e w1 ⟨rfl, hb1⟩
  have y0 := cell_below hb1 x0 (by omega)
  have y1 := cell_below hb1 x1 (by omega)
  have HB1 := Lib.hid (HB0.out.trans (hb1.mono (by omega)))
  have s1 := hb1.size
  clear hb1 x0 x1 HV
  go_wp2_with fail
  go_ret2
  exact ⟨rfl, HB1.out⟩
set_option maxRecDepth 100000 in
set_option maxHeartbeats 4000000 in
theorem spec_yes (a : Option Addr) (ws : List Int) (c : Nat) (q : Int) (w : World) (hr : ints.Reads .i64 w a ws) (hn : ws.length ≤ 1048576) (hk : voteB ws q = true) :
    Calls Try.prog 39 #[.agg #[.slice a ws.length c, .int .i64 q]] w (RetNB ((dictL (winB ws q) ws.length).getD 0 0) (!((dictL (winB ws q) ws.length).length == 0)) w) := by
  have HV := Lib.hid (fun (wa : World) (hb : Below w.heap.size w wa) => vote.spec_vote a ws c q wa (hr.below hb) hn true (Lib.hid hk))
  have h18 := ((vote_iff _ _).1 hk).1
  have HW := Lib.hid (fun (wa : World) (hb : Below w.heap.size w wa) => spec_vetoes a ws c q wa (hr.below hb) hn hk)
  have HR := Lib.hid hr
  have HWP := Lib.hid (fun i (hi : i < ws.length) => win_pow (q := q) h18.2 hi)
  clear hr hk
  go_enter Try.func39, Try.ntmps39
  obtain ⟨w0, hw0⟩ : ∃ w0 : World, w0 = w.alloc (.cells #[.slice a ws.length c, .int .i64 q] 29) := ⟨_, rfl⟩
  have x0 : w0.cell? ⟨w.heap.size, 0, none⟩ = some (.slice a ws.length c) := by rw [hw0]; exact cell_new _ _ _ rfl rfl
  have x1 : w0.cell? ⟨w.heap.size, 1, none⟩ = some (.int .i64 q) := by rw [hw0]; exact cell_new _ _ _ rfl rfl
  have HB0 := Lib.hid (show Below w.heap.size w w0 by rw [hw0]; exact below_alloc w (.cells #[.slice a ws.length c, .int .i64 q] 29))
  have s0 : w.heap.size + 1 ≤ w0.heap.size := by rw [hw0]; simp
  go_wp2_with fail
  rw [← hw0]
  clear hw0
  refine (HV.out _ HB0.out).mono ?_
  rintro e w1 ⟨rfl, hb1⟩
  have y0 := cell_below hb1 x0 (by omega)
  have y1 := cell_below hb1 x1 (by omega)
  have HB1 := Lib.hid (HB0.out.trans (hb1.mono (by omega)))
  have s1 := hb1.size
  clear hb1 x0 x1 HV
  go_wp2_with fail
  refine (HW.out _ HB1.out).mono ?_
  rintro e w2 ⟨v, rfl, hos, hb2⟩
  obtain ⟨sp, sc, rfl, _, _, _⟩ := hos.slice
  have z0 := cell_below hb2 y0 (by omega)
  have z1 := cell_below hb2 y1 (by omega)
  have HB2 := Lib.hid (HB1.out.trans (hb2.mono (by omega)))
  have HRD := Lib.hid hos.reads
  have s2 := hb2.size
  have HLE := Lib.hid (vet_len (winB ws q) ws.length)
  have HAT := Lib.hid (fun k (h : k < (vetN (winB ws q) ws.length).length) => vet_at h)
  have HLT := Lib.hid (fun k (h : k < (vetN (winB ws q) ws.length).length) => vet_lt h)
  have HDF := Lib.hid (dict_filter (winB ws q) ws.length)
  have hvl : (vetN (winB ws q) ws.length).length ≤ 8 := by have := pwh.placesTo_length (vetoB (winB ws q) ws.length) ws.length; rw [vet_len] at this; omega
  clear hb2 hos HW y0 y1
  generalize dictL (winB ws q) ws.length = DL at *
  generalize pwh.placesTo (vetoB (winB ws q) ws.length) ws.length = V at *
  generalize vetN (winB ws q) ws.length = VN at *
  generalize winB ws q = win at *
  rw [HLE.out]
  go_wp2_with fail
  go_loopw [5] (fun i wr => ∃ k : Nat, k ≤ VN.length ∧ i = .int .i64 k ∧ Hid (∀ j, j < k → win (2 ^ VN.getD j 0) = false) ∧ ∃ m, wr = w2.drewN m) (fun i _ => VN.length - (intOf i).toNat)
  case atStart => exact ⟨0, Nat.zero_le _, rfl, Lib.hid (fun j hj => by omega), 0, rfl⟩
  case round =>
    obtain ⟨k, hk, rfl, hj, m, hwr⟩ := hrel
    have hbq : Below w2.heap.size w2 wr := by rw [hwr]; exact ints.below_drewN (Below.refl _ _) m
    have u0 := cell_below hbq z0 (by omega)
    have u1 := cell_below hbq z1 (by omega)
    have HDD := Lib.hid (show ∀ n, ∃ q, wr.drewN n = w2.drewN q from fun n => ⟨_, by rw [hwr, World.drewN_drewN]⟩)
    have HBr := Lib.hid (HB2.out.trans (hbq.mono (by omega)))
    by_cases hlt : k < VN.length
    · obtain ⟨b, off, rfl, hbl, hc⟩ := (HRD.out.below hbq).at (k := k) (by rw [HLE.out]; exact hlt)
      rw [HAT.out k hlt] at hc
      have hvn := HLT.out k hlt
      obtain ⟨b2, off2, rfl, hbl2, hc2⟩ := (HR.out.below HBr.out).at hvn
      have HWk := Lib.hid (HWP.out _ hvn)
      have HJ := Lib.hid (fun (h : win (2 ^ VN.getD k 0) = false) (j : Nat) (h2 : j < k + 1) => show win (2 ^ VN.getD j 0) = false from by
        by_cases e : j = k
        · rw [e]; exact h
        · exact hj.out j (by omega))
      have HFF := Lib.hid (fun (h : win (2 ^ VN.getD k 0) = true) => filter_first (p := fun i => win (2 ^ i)) 0 hlt hj.out h)
      clear hwr hbq hbl hbl2 hj
      generalize VN.getD k 0 = x at *
      have i1 : (0 : Int) ≤ (x : Int) := by omega
      have i2 : (x : Int) < (ws.length : Int) := by omega
      have i3 : (0 : Int) ≤ (k : Int) := by omega
      have i4 : (k : Int) < (VN.length : Int) := by omega
      cases hx : win (2 ^ x)
      · have HK := Lib.hid (HJ.out hx)
        have g1 : decide (q ≤ ws.getD x 0) = false := by rw [← HWk.out]; exact hx
        clear hx HWk HFF HJ
        generalize ws.getD x 0 = s at *
        go_wp2_with fail
        go_quiet (fail)
        go_wp2_with fail
        go_roundw
        case rel => exact ⟨k + 1, by omega, by go_num, HK, HDD.out _⟩
        case measure => simp [intOf]; omega
      · obtain ⟨mm, hmm⟩ := HFF.out hx
        have HE := Lib.hid (show DL.getD 0 0 = (x : Int) ∧ (!(DL.length == 0)) = true from by rw [HDF.out, hmm]; exact ⟨rfl, rfl⟩)
        have g1 : decide (q ≤ ws.getD x 0) = true := by rw [← HWk.out]; exact hx
        clear hx HWk HFF HJ hmm
        generalize ws.getD x 0 = s at *
        go_wp2_with fail
        go_quiet (fail)
        go_wp2_with fail
        go_ret2
        exact ⟨by rw [HE.out.1, HE.out.2]; rfl, ints.below_drewN HBr.out _⟩
    · obtain rfl : k = VN.length := by omega
      have HE := Lib.hid (show DL.getD 0 0 = (0 : Int) ∧ (!(DL.length == 0)) = false from by rw [HDF.out, filter_none (p := fun i => win (2 ^ i)) 0 hj.out]; exact ⟨rfl, rfl⟩)
      clear hj hwr hbq
      go_wp2_with fail
      go_ret2
      exact ⟨by rw [HE.out.1, HE.out.2]; rfl, HBr.out⟩
set_option maxRecDepth 100000 in
set_option maxHeartbeats 1000000 in
theorem di_closure (k g n : Nat) (p : Nat → Bool) (w : World) (h8 : n ≤ 8) (hb : Box w g n p) (hk : k < n) (ok : Bool) (hok : Hid ((p (2 ^ k) && !(p (off (2 ^ n - 1) k))) = ok)) :
    Calls Try.prog 70 #[.int .i64 k, .pointer (some ⟨g, 0, none⟩)] w (fun e w' => e = .returned (.bool ok) ∧ Below w.heap.size w w') := by
  have hp7 : 2 ^ k ≤ 128 := Nat.pow_le_pow_right (n := 2) (by omega) (show k ≤ 7 by omega)
  have c1 := hb.cellAt (2 ^ k) (by omega)
  have HVe := Lib.hid (fun (o : Bool) (h : (!(p (off (2 ^ n - 1) k))) = o) => veto_any n p k w h8 hk o (Lib.hid h))
  obtain ⟨K, hK⟩ : ∃ K : Nat, 2 ^ k = K := ⟨_, rfl⟩
  have h2 : (2 : Int) ^ k = (K : Int) := by rw [← hK]; simp
  rw [hK] at c1 hp7 hok
  have HOK := hok
  clear hK hok
  have i1 : (0 : Int) ≤ (K : Int) := by omega
  have i2 : (K : Int) < 256 := by omega
  cases h1 : p K
  · rw [h1] at c1 HOK
    obtain rfl : ok = false := by rw [← HOK.out]; rfl
    clear HOK h1 hb HVe
    go_enter Try.func70, Try.ntmps70
    go_wp2_with fail
    go_ret
    exact ⟨rfl, Below.refl _ _⟩
  · rw [h1] at c1 HOK
    have HV2 := Lib.hid (HVe.out ok (by rw [← HOK.out]; rfl))
    clear HOK h1 HVe
    go_enter Try.func70, Try.ntmps70
    go_wp2_with (refine wp_load_w rfl _ rfl g n p rfl hb ?_)
    refine HV2.out.mono ?_
    rintro e w1 ⟨rfl, hb1⟩
    have HB1 := Lib.hid hb1
    clear hb1 hb
    go_wp2_with fail
    go_ret
    exact ⟨rfl, HB1.out⟩
set_option maxRecDepth 100000 in
set_option maxHeartbeats 4000000 in
theorem impl_any (a : Option Addr) (ws : List Int) (c : Nat) (q : Int) (w : World) (hr : ints.Reads .i64 w a ws) (hn : ws.length ≤ 1048576) {n : Nat} {win : Nat → Bool} {ok : Bool} (hd : OfV ws q n win ok) :
    Calls Try.prog 40 #[.agg #[.slice a ws.length c, .int .i64 q]] w (RetNB ((dictL win n).getD 0 0) (!((dictL win n).length == 0)) w) := by
  have HOF := Lib.hid (fun (wa : World) (hb : Below w.heap.size w wa) => of_data a ws c q wa (hr.below hb) hn hd)
  have h8 := hd.le
  clear hr hd
  go_enter Try.func40, Try.ntmps40
  obtain ⟨w0, hw0⟩ : ∃ w0 : World, w0 = w.alloc (.cells #[.slice a ws.length c, .int .i64 q] 29) := ⟨_, rfl⟩
  have x0 : w0.cell? ⟨w.heap.size, 0, none⟩ = some (.slice a ws.length c) := by rw [hw0]; exact cell_new _ _ _ rfl rfl
  have x1 : w0.cell? ⟨w.heap.size, 1, none⟩ = some (.int .i64 q) := by rw [hw0]; exact cell_new _ _ _ rfl rfl
  have HB0 := Lib.hid (show Below w.heap.size w w0 by rw [hw0]; exact below_alloc w (.cells #[.slice a ws.length c, .int .i64 q] 29))
  have s0 : w.heap.size + 1 ≤ w0.heap.size := by rw [hw0]; simp
  go_wp2_with fail
  rw [← hw0]
  clear hw0
  refine (HOF.out _ HB0.out).mono ?_
  rintro e w1 ⟨rfl, hb1⟩
  have HB1 := Lib.hid (HB0.out.trans (hb1.mono (by omega)))
  have s1 := hb1.size
  clear hb1 x0 x1 HOF
  go_wp2_with (refine wp_alloc rfl rfl ?_; intro w2 hbx2 hb2 hz2; refine Hid.out ?_)
  have HB2 := Lib.hid (HB1.out.trans (hb2.mono (by omega)))
  clear hb2
  refine Lib.hid ?_
  go_wp2_with (refine wp_store rfl _ _ rfl w1.heap.size n (upto win (2 ^ n)) rfl rfl 0 no hbx2 ?_; intro w3 hbx3 ho3 hz3; refine Hid.out ?_)
  have HB3 := Lib.hid (HB2.out.trans ((ho3.below (by omega)).mono (by omega)))
  have s3 : w1.heap.size < w3.heap.size := by omega
  clear ho3 hbx2
  refine Lib.hid ?_
  go_wp2_with (refine wp_load rfl _ rfl w1.heap.size n (upto win (2 ^ n)) rfl hbx3 ?_)
  have HCW := Lib.hid (voters1 70 (enters_of Try.func70 (by kernel_rfl) rfl) (.pointer (some ⟨w1.heap.size, 0, none⟩)) n (upto win (2 ^ n)) (dictP win n) w3 h8 (Lib.hid (fun k wr hk hb => by
    have hp := bits8.pow8 h8
    have hol := off_le (2 ^ n - 1) k
    have hkn := Nat.pow_lt_pow_right (a := 2) (by omega) hk
    exact di_closure k w1.heap.size n (upto win (2 ^ n)) wr h8 (hbx3.below hb s3) hk (dictP win n k) (Lib.hid (by rw [upto_at _ _ _ hkn, upto_at _ _ _ (by omega)]; rfl)))))
  clear hbx3
  go_wp2_with fail
  refine HCW.out.mono ?_
  rintro e w4 ⟨v, rfl, ho, hb4⟩
  obtain ⟨lp, lc, rfl, _, _, _⟩ := ho.slice
  have HB4 := Lib.hid (HB3.out.trans (hb4.mono (by omega)))
  have HRD := Lib.hid ho.reads
  have HL := Lib.hid (show dictL win n = pwh.placesTo (dictP win n) n from rfl)
  have hlen := pwh.placesTo_length (dictP win n) n
  clear hb4 ho HCW
  generalize pwh.placesTo (dictP win n) n = L at *
  by_cases h0 : L.length = 0
  · have g1 : ((L.length : Int) == 0) = true := by rw [beq_iff_eq]; omega
    have HE := Lib.hid (show L.getD 0 0 = 0 ∧ (!(L.length == 0)) = false by rw [List.length_eq_zero_iff.1 h0]; exact ⟨rfl, rfl⟩)
    clear h0
    go_wp2_with fail
    go_ret2
    exact ⟨by rw [HL.out, HE.out.1, HE.out.2]; rfl, HB4.out⟩
  · have g1 : ((L.length : Int) == 0) = false := by rw [beq_eq_false_iff_ne]; omega
    obtain ⟨b, off, rfl, hbl, hc⟩ := HRD.out.at (k := 0) (by omega)
    have HE := Lib.hid (show (!(L.length == 0)) = true by cases hL : L.length == 0 <;> simp_all)
    have h1 : 0 < L.length := by omega
    have h1' : (0 : Int) < (L.length : Int) := by omega
    rw [Nat.add_zero] at hc
    clear h0
    obtain ⟨x, hx⟩ : ∃ x : Int, L.getD 0 0 = x := ⟨_, rfl⟩
    rw [hx] at hc
    have HX := Lib.hid hx
    clear hx
    go_wp2_with fail
    go_ret2
    exact ⟨by rw [HL.out, HX.out, HE.out]; rfl, HB4.out⟩
end Go.Proofs.Ytkcpncngkmnmdaa.dict
