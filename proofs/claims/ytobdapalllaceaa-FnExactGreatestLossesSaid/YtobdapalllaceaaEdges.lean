/- The walks of the model's least wins and greatest losses. -/
import Derived.Test.YtobdapalllaceaaPut
import Derived.Test.YtobdapalllaceaaVote
import Derived.Test.YtobdapalllaceaaOutOf
import Derived.Test.YtobdapalllaceaaRets
import Derived.Deep.DrawnRows
import Derived.Deep.AppendLies
namespace Go.Proofs.Ytobdapalllaceaa.edges
open Go.RowKit own pp nums setcmp setord bothi pv wins ownb bitn edge put
set_option linter.unusedVariables false
attribute [local go_sem ↓] Go.wp_at_zero Go.wp_at_succ
set_option linter.unusedSimpArgs false

/-- The edges among the first k sets, put in order. -/
def edgesTo (p : Nat → Bool) (n : Nat) (wn : Bool) (k : Nat) : List (List Int) := ((List.range k).filter (edgeB p n wn)).map (bitsL n)
def ordTo (p : Nat → Bool) (n : Nat) (wn : Bool) (k : Nat) : List (List Int) := putsL (edgesTo p n wn k)
theorem ord_hit {p : Nat → Bool} {n : Nat} {wn : Bool} {k : Nat} (h : edgeB p n wn k = true) : ordTo p n wn (k + 1) = insL (ordTo p n wn k) (bitsL n k) := by
  unfold ordTo edgesTo
  rw [List.range_succ, List.filter_append, List.map_append, List.filter_cons_of_pos h, List.filter_nil]
  exact puts_snoc _ _
theorem ord_miss {p : Nat → Bool} {n : Nat} {wn : Bool} {k : Nat} (h : edgeB p n wn k = false) : ordTo p n wn (k + 1) = ordTo p n wn k := by
  unfold ordTo edgesTo
  rw [List.range_succ, List.filter_append, List.map_append, List.filter_cons_of_neg (by rw [h]; simp), List.filter_nil, List.map_nil, List.append_nil]
theorem ord_length (p : Nat → Bool) (n : Nat) (wn : Bool) (k : Nat) : (ordTo p n wn k).length ≤ k := by
  unfold ordTo
  rw [(puts_perm _).length_eq]
  unfold edgesTo
  rw [List.length_map]
  have := List.length_filter_le (edgeB p n wn) (List.range k)
  rw [List.length_range] at this
  exact this
theorem ord_rows {p : Nat → Bool} {n : Nat} {wn : Bool} {k : Nat} {r : List Int} (h : r ∈ ordTo p n wn k) : r.length ≤ n := by
  have h2 := (puts_perm _).mem_iff.1 h
  unfold edgesTo at h2
  obtain ⟨j, _, rfl⟩ := List.mem_map.1 h2
  exact bits_len n j
theorem edge_upto {p : Nat → Bool} {n : Nat} (h8 : n ≤ 8) {wn : Bool} {k : Nat} (hk : k < 2 ^ n) : edgeB (outc.upto p (2 ^ n)) n wn k = edgeB p n wn k := by
  unfold edgeB stepB
  have e : ∀ j, j < 2 ^ n → outc.upto p (2 ^ n) j = p j := fun j hj => outc.upto_at _ _ _ hj
  rw [e k hk]
  congr 1
  rw [Bool.eq_iff_iff, List.all_eq_true, List.all_eq_true]
  have e2 : ∀ i, i < n → outc.upto p (2 ^ n) (k ^^^ 2 ^ i) = p (k ^^^ 2 ^ i) := fun i hi => e _ (Nat.xor_lt_two_pow hk (Nat.pow_lt_pow_right (by omega) hi))
  constructor
  · intro h i hi
    rw [← e2 i (List.mem_range.1 hi)]; exact h i hi
  · intro h i hi
    rw [e2 i (List.mem_range.1 hi)]; exact h i hi
theorem ord_upto {p : Nat → Bool} {n : Nat} (h8 : n ≤ 8) {wn : Bool} : ordTo (outc.upto p (2 ^ n)) n wn (2 ^ n) = ordTo p n wn (2 ^ n) := by
  unfold ordTo edgesTo
  rw [List.filter_congr (fun k hk => edge_upto h8 (List.mem_range.1 hk))]
theorem tot_le (l : List (List Int)) (m : Nat) (h : ∀ r ∈ l, r.length ≤ m) : grid.tot l ≤ m * l.length := by
  unfold grid.tot
  induction l with
  | nil => simp
  | cons r l ih =>
    have h1 := h r (List.mem_cons_self ..)
    have h2 := ih (fun s hs => h s (List.mem_cons_of_mem _ hs))
    rw [List.map_cons, List.sum_cons, List.length_cons, Nat.mul_succ]
    omega
theorem ord_size (p : Nat → Bool) {n : Nat} (wn : Bool) (h8 : n ≤ 8) : (ordTo p n wn (2 ^ n)).length + grid.tot (ordTo p n wn (2 ^ n)) ≤ 1048576 := by
  have h1 := ord_length p n wn (2 ^ n)
  have h2 := (bits8.pow8 h8).2
  have h3 := tot_le (ordTo p n wn (2 ^ n)) 8 (fun r hr => Nat.le_trans (ord_rows hr) h8)
  omega
theorem own_form {w : World} {base n : Nat} {v : Value} {xs : List Value} (h : w.ownsRow base 22 1 v n xs) (hn : 0 < n) : ∃ g cap, v = .slice (some ⟨g, 0, none⟩) n cap ∧ g < w.heap.size := by
  obtain ⟨g, cap, e, _, hlt⟩ := h.form hn
  exact ⟨g, cap, e, hlt⟩
set_option maxRecDepth 100000 in
set_option maxHeartbeats 4000000 in
theorem spec_edges (a : Option Addr) (ws : List Int) (c : Nat) (q : Int) (wn : Bool) (w : World) (hr : ints.Reads .i64 w a ws) (hn : ws.length ≤ 1048576) (hk : voteB ws q = true) :
    Calls Try.prog 71 #[.agg #[.slice a ws.length c, .int .i64 q], .bool wn] w (MadeG (ordTo (winB ws q) ws.length wn (2 ^ ws.length)) w) := by
  have h18 := ((vote_iff _ _).1 hk).1
  have h8 := h18.2
  have hzz := ((vote_iff _ _).1 hk).2.1
  have hp12 := bits8.pow8 h18.2
  have HW := Lib.hid (fun (wa : World) (hb : Below w.heap.size w wa) => wins.spec_wins a ws c q wa (hr.below hb) hn h18.2 hzz)
  clear hr hzz hk
  generalize winB ws q = p at *
  obtain ⟨N, hN⟩ : ∃ N : Nat, 2 ^ ws.length = N := ⟨_, rfl⟩
  have HN := Lib.hid hN
  rw [hN] at hp12 HW ⊢
  clear hN
  go_enter Try.func71, Try.ntmps71
  go_wp2_with fail
  have x0_0 : (w.alloc (.cells #[.slice a ws.length c, .int .i64 q] 34)).cell? ⟨w.heap.size, 0, none⟩ = some (.slice a ws.length c) := cell_new _ _ _ (by simp) rfl
  have x0_1 : (w.alloc (.cells #[.slice a ws.length c, .int .i64 q] 34)).cell? ⟨w.heap.size, 1, none⟩ = some (.int .i64 q) := cell_new _ _ _ (by simp) rfl
  have HB0 := Lib.hid (below_alloc w (.cells #[.slice a ws.length c, .int .i64 q] 34))
  have s0 : w.heap.size + 1 ≤ (w.alloc (.cells #[.slice a ws.length c, .int .i64 q] 34)).heap.size := by simp
  generalize hw : (w.alloc (.cells #[.slice a ws.length c, .int .i64 q] 34)) = w0 at *
  clear hw
  have n0_0 : w.heap.size < w0.heap.size := by omega
  have sw0 := s0
  refine wp_region_noPanic ?_
  refine wp_region_held_drew (S := fun w' => w'.cell? ⟨w.heap.size, 0, none⟩ = some (.slice a ws.length c) ∧ w'.cell? ⟨w.heap.size, 1, none⟩ = some (.int .i64 q)) (by kernel_rfl) ?_ (fun hHeld => ?_)
  · exact ⟨x0_0, x0_1⟩
  have hb : Below w0.heap.size w0 w0.drew := (Below.refl _ _).drew
  generalize hwn : w0.drew = v11 at *
  clear hwn
  have sz11 : w0.heap.size ≤ v11.heap.size := hb.size
  replace x0_0 := cell_keep hb x0_0
  replace x0_1 := cell_keep hb x0_1
  have HBh11 := Lib.hid (HB0.out.trans (hb.mono (by have := HB0.out.size; omega)))
  clear hb
  refine wpAnyH_take (i := 1) (v := ?_) rfl (by kernel_rfl) (by kernel_rfl) (by kernel_rfl) (fun _ _ _ h => h) (Or.inl ⟨by rfl, ?_⟩) (by assumption) ?_
  rotate_left
  · intro w9 hSw; (try dsimp only at hSw); go_simp; try with_reducible rfl
  try simp only [List.getElem_toArray, List.getElem_cons_succ, List.getElem_cons_zero, Act.put, List.setIfInBounds_toArray, List.set_cons_zero, List.set_cons_succ]
  refine wpAnyH_take (i := 3) (v := ?_) rfl (by kernel_rfl) (by kernel_rfl) (by kernel_rfl) (fun _ _ _ h => h) (Or.inl ⟨by rfl, ?_⟩) (by assumption) ?_
  rotate_left
  · intro w9 hSw; (try dsimp only at hSw); go_simp; try with_reducible rfl
  try simp only [List.getElem_toArray, List.getElem_cons_succ, List.getElem_cons_zero, Act.put, List.setIfInBounds_toArray, List.set_cons_zero, List.set_cons_succ]
  refine wpAnyH_take (i := 4) (v := ?_) rfl (by kernel_rfl) (by kernel_rfl) (by kernel_rfl) (fun _ _ _ h => h) (Or.inl ⟨by rfl, ?_⟩) (by assumption) ?_
  rotate_left
  · intro w9 hSw; (try dsimp only at hSw); go_simp; try with_reducible rfl
  try simp only [List.getElem_toArray, List.getElem_cons_succ, List.getElem_cons_zero, Act.put, List.setIfInBounds_toArray, List.set_cons_zero, List.set_cons_succ]
  refine wpAnyH_take (i := 5) (v := ?_) rfl (by kernel_rfl) (by kernel_rfl) (by kernel_rfl) (fun _ _ _ h => h) (Or.inl ⟨by rfl, ?_⟩) (by assumption) ?_
  rotate_left
  · intro w9 hSw; (try dsimp only at hSw); go_simp; try with_reducible rfl
  try simp only [List.getElem_toArray, List.getElem_cons_succ, List.getElem_cons_zero, Act.put, List.setIfInBounds_toArray, List.set_cons_zero, List.set_cons_succ]
  refine wpAnyH_ready (rs := [0, 2]) (by kernel_rfl) (by simp) ?_
  refine AllReadyH.cons rfl (fun K hK => ?_) ?_
  · skip
    clear hHeld
    go_simp
    have ho0 : (v11.alloc (.cells #[] 22)).ownsRow w.heap.size 22 1 (.slice (some ⟨v11.heap.size, 0, none⟩) 0 0) 0 [] := World.ownsRow_made (base := w.heap.size) (e := 22) (size := 1) v11 #[] 0 (by have := HBh11.out.size; omega) (by unfold maxLen; omega) rfl
    have hb := below_alloc v11 (.cells #[] 22)
    have lt_v0 := size_alloc' v11 (.cells #[] 22)
    obtain ⟨B0, hB0⟩ : ∃ B0 : Nat, B0 = v11.heap.size := ⟨_, rfl⟩
    rw [← hB0] at ho0 ⊢
    have hB0l : B0 ≤ v11.heap.size ∧ v11.heap.size ≤ B0 := by omega
    clear hB0
    generalize hwn : v11.alloc (.cells #[] 22) = v12 at *
    clear hwn
    have sz12 : v11.heap.size ≤ v12.heap.size := hb.size
    replace x0_0 := cell_keep hb x0_0
    replace x0_1 := cell_keep hb x0_1
    have HBh12 := Lib.hid (HBh11.out.trans (hb.mono (by have := HBh11.out.size; omega)))
    clear hb
    have HO0 := Lib.hid ho0
    clear ho0
    refine hK.out _ _ ?_ (fun hHeld => ?_)
    · exact ⟨x0_0, x0_1⟩
    clear hK K
    try simp only [List.getElem_toArray, List.getElem_cons_succ, List.getElem_cons_zero, Act.put, List.setIfInBounds_toArray, List.set_cons_zero, List.set_cons_succ]
    refine wpAnyH_ready (rs := [2]) (by kernel_rfl) (by simp) ?_
    refine AllReadyH.cons rfl (fun K hK => ?_) AllReadyH.nil
    clear hHeld
    go_simp
    refine (HW.out _ HBh12.out).mono ?_
    rintro e v13 ⟨v, rfl, how, hb⟩
    obtain ⟨g1, cb, rfl, _, _, _, _, _⟩ := how.slice hp12.1
    replace HO0 := Lib.hid (ownsRow_block HO0.out (fun g e => hb.block g (HO0.out.lt g e).2))
    have sz13 : v12.heap.size ≤ v13.heap.size := hb.size
    replace x0_0 := cell_keep hb x0_0
    replace x0_1 := cell_keep hb x0_1
    have HBh13 := Lib.hid (HBh12.out.trans (hb.mono (by have := HBh12.out.size; omega)))
    clear hb
    have HOW := Lib.hid how
    clear how
    refine hK.out _ _ ?_ (fun hHeld => ?_)
    · exact ⟨x0_0, x0_1⟩
    clear hK K
    try simp only [List.getElem_toArray, List.getElem_cons_succ, List.getElem_cons_zero, Act.put, List.setIfInBounds_toArray, List.set_cons_zero, List.set_cons_succ]
    refine wpAnyH_take (i := 6) (v := ?_) rfl (by kernel_rfl) (by kernel_rfl) (by kernel_rfl) (fun _ _ _ h => h) (Or.inl ⟨by rfl, ?_⟩) (by assumption) ?_
    rotate_left
    · intro w9 hSw; (try dsimp only at hSw); go_simp; try with_reducible rfl
    try simp only [List.getElem_toArray, List.getElem_cons_succ, List.getElem_cons_zero, Act.put, List.setIfInBounds_toArray, List.set_cons_zero, List.set_cons_succ]
    refine wpAnyH_take (i := 7) (v := ?_) rfl (by kernel_rfl) (by kernel_rfl) (by kernel_rfl) (fun _ _ _ h => h) (Or.inl ⟨by rfl, ?_⟩) (by assumption) ?_
    rotate_left
    · intro w9 hSw; (try dsimp only at hSw); go_simp; try with_reducible rfl
    try simp only [List.getElem_toArray, List.getElem_cons_succ, List.getElem_cons_zero, Act.put, List.setIfInBounds_toArray, List.set_cons_zero, List.set_cons_succ]
    refine wpAnyH_take (i := 8) (v := ?_) rfl (by kernel_rfl) (by kernel_rfl) (by kernel_rfl) (fun _ _ _ h => h) (Or.inl ⟨by rfl, ?_⟩) (by assumption) ?_
    rotate_left
    · intro w9 hSw; (try dsimp only at hSw); go_simp; try with_reducible rfl
    try simp only [List.getElem_toArray, List.getElem_cons_succ, List.getElem_cons_zero, Act.put, List.setIfInBounds_toArray, List.set_cons_zero, List.set_cons_succ]
    refine wpAnyH_done (by kernel_rfl) ?_ _
    refine NoPanic.normal ?_
    clear hHeld
    clear HW x0_0 x0_1
    have HBE := Lib.hid HBh13.out
    have hsE := HBh13.out.size
    go_wp2_with fail
    go_loopw [5, 8] (fun v i wr => ∃ (k gl cp : Nat) (cs : List Value), k ≤ N ∧ i = .int .i64 k ∧ v = .slice (some ⟨gl, 0, none⟩) (ordTo p ws.length wn k).length cp ∧ wr.ownsRow w.heap.size 22 1 (.slice (some ⟨gl, 0, none⟩) (ordTo p ws.length wn k).length cp) (ordTo p ws.length wn k).length cs ∧ RowsOf w.heap.size wr.heap.size wr cs (ordTo p ws.length wn k) ∧ OwnB w.heap.size wr.heap.size wr (.slice (some ⟨g1, 0, none⟩) N cb) N p ∧ Below w.heap.size w wr) (fun _ i _ => N - (intOf i).toNat)
    case atStart => exact ⟨0, B0, 0, [], Nat.zero_le _, rfl, rfl, HO0.out, RowsOf.nil _ _ _, HOW.out.mono (by omega) (by omega), HBE.out⟩
    case round =>
      clear HO0 HOW HBE
      obtain ⟨k, gl, cp, cs, hk, rfl, rfl, ho, hro, how, hbel⟩ := hrel
      have HO := Lib.hid ho
      have HRO := Lib.hid hro
      have HOW := Lib.hid how
      have HBl := Lib.hid hbel
      obtain ⟨gq, cq, he, _, _, _, _, hcs⟩ := how.slice hp12.1
      cases he
      have hlen := ord_length p ws.length wn k
      by_cases hlt : k < N
      · have HED := Lib.hid (spec_edge ws.length N g1 cb p k wn wr h8 HN.out hlt hcs)
        have i1 : (0 : Int) ≤ (k : Int) := by omega
        have i2 : (k : Int) < (N : Int) := by omega
        clear ho hro how hbel hcs
        cases hed : edgeB p ws.length wn k
        · have HM := Lib.hid (ord_miss hed)
          rw [hed] at HED
          clear hed
          generalize ordTo p ws.length wn k = rows at *
          go_wp2_with fail
          refine HED.out.mono ?_
          rintro e w' ⟨rfl, rfl⟩
          go_wp2_with fail
          go_roundw
          case rel => exact ⟨k + 1, gl, cp, cs, by omega, by go_num, by rw [HM.out], by rw [HM.out]; exact HO.out, by rw [HM.out]; exact HRO.out, HOW.out, HBl.out⟩
          case measure => simp [intOf]; omega
        · have HM := Lib.hid (ord_hit hed)
          have HRW := Lib.hid (fun r (h : r ∈ ordTo p ws.length wn k) => Nat.le_trans (ord_rows h) h8)
          have hbl := bits_len ws.length k
          have HBI := Lib.hid (spec_bits ws.length k wr h8 (by omega))
          rw [hed] at HED
          clear hed
          generalize ordTo p ws.length wn k = rows at *
          generalize bitsL ws.length k = s at *
          go_wp2_with fail
          refine HED.out.mono ?_
          rintro e w' ⟨rfl, rfl⟩
          go_wp2_with fail
          refine HBI.out.mono ?_
          rintro e w5 ⟨v, rfl, hos, hb⟩
          obtain ⟨sa, sc, rfl, _, _, _⟩ := hos.slice
          have sz5 := hb.size
          have ho5 := ownsRow_block HO.out (fun g e => hb.block g (HO.out.lt g e).2)
          have HRO5 := Lib.hid ((HRO.out.below hb).mono (Nat.le_refl _) hb.size)
          have HRO5' := Lib.hid (HRO.out.below hb)
          have HOW5 := Lib.hid (HOW.out.below hb)
          have HB5 := Lib.hid (HBl.out.trans (hb.mono (by have := HBl.out.size; omega)))
          have HPU := Lib.hid (spec_put w.heap.size gl cp cs rows sa s sc w5 ho5 HRO5.out hos.reads (by omega) (by omega) HRW.out)
          have HOS := Lib.hid hos
          clear hb hos ho5 HED HBI
          go_wp2_with fail
          refine HPU.out.mono ?_
          rintro e w6 ⟨v', rfl, hown, hb⟩
          have sz6 := hb.size
          obtain ⟨g6, c6, rfl, hg6⟩ := own_form hown (by omega)
          have hcl : cs.length = rows.length := HRO.out.1
          have hins : insAt rows (plcL rows s) s = insL rows s := ins_eq rows s
          have hlen6 : (insL rows s).length = rows.length + 1 := ins_length rows s
          have HR6 := Lib.hid (show RowsOf w.heap.size w6.heap.size w6 (insAt cs (plcL rows s) (.slice sa s.length sc)) (insL rows s) from by
            rw [← hins]
            exact (rows_ins ((HRO5'.out.below hb).snoc (HOS.out.below hb) (by have := HBl.out.size; omega) sz5) hcl _ (by rw [hcl]; exact plc_le rows s)).mono (Nat.le_refl _) sz6)
          have HO6 := Lib.hid (show w6.ownsRow w.heap.size 22 1 (.slice (some ⟨g6, 0, none⟩) (insL rows s).length c6) (insL rows s).length (insAt cs (plcL rows s) (.slice sa s.length sc)) from by
            rw [hlen6]
            exact ownsRow_base hown (fun g e => by have := (hown.lt g e).1; have := HB5.out.size; omega))
          have HOW6 := Lib.hid ((HOW5.out.below hb).mono (Nat.le_refl _) (show w'.heap.size ≤ w6.heap.size by omega))
          have HB6 := Lib.hid (HB5.out.trans (hb.mono (by have := HB5.out.size; omega)))
          have HL6 := Lib.hid hlen6
          clear hown hb hins hcl hlen6
          go_wp2_with fail
          go_roundw
          case rel => exact ⟨k + 1, g6, c6, _, by omega, by go_num, by rw [HM.out, HL6.out], by rw [HM.out]; exact HO6.out, by rw [HM.out]; exact HR6.out, HOW6.out, HB6.out⟩
          case measure => simp [intOf]; omega
      · obtain rfl : k = N := by omega
        have hR : MadeG (ordTo p ws.length wn k) w (.returned (.slice (some ⟨gl, 0, none⟩) (ordTo p ws.length wn k).length cp)) wr := ⟨_, rfl, ⟨cs, ho, fun g e => (ho.lt g e).2, hro⟩, hbel⟩
        have HF := Lib.hid hR
        clear hR ho hro how hbel hcs HO HRO HOW HBl
        generalize ordTo p ws.length wn k = rows at *
        go_wp2_with fail
        go_ret
        exact HF.out
  refine AllReadyH.cons rfl (fun K hK => ?_) AllReadyH.nil
  clear hHeld
  go_simp
  refine (HW.out _ HBh11.out).mono ?_
  rintro e v12 ⟨v, rfl, how, hb⟩
  obtain ⟨g1, cb, rfl, _, _, _, _, _⟩ := how.slice hp12.1
  have sz12 : v11.heap.size ≤ v12.heap.size := hb.size
  replace x0_0 := cell_keep hb x0_0
  replace x0_1 := cell_keep hb x0_1
  have HBh12 := Lib.hid (HBh11.out.trans (hb.mono (by have := HBh11.out.size; omega)))
  clear hb
  have HOW := Lib.hid how
  clear how
  refine hK.out _ _ ?_ (fun hHeld => ?_)
  · exact ⟨x0_0, x0_1⟩
  clear hK K
  try simp only [List.getElem_toArray, List.getElem_cons_succ, List.getElem_cons_zero, Act.put, List.setIfInBounds_toArray, List.set_cons_zero, List.set_cons_succ]
  refine wpAnyH_ready (rs := [0]) (by kernel_rfl) (by simp) ?_
  refine AllReadyH.cons rfl (fun K hK => ?_) AllReadyH.nil
  clear hHeld
  go_simp
  have ho0 : (v12.alloc (.cells #[] 22)).ownsRow w.heap.size 22 1 (.slice (some ⟨v12.heap.size, 0, none⟩) 0 0) 0 [] := World.ownsRow_made (base := w.heap.size) (e := 22) (size := 1) v12 #[] 0 (by have := HBh12.out.size; omega) (by unfold maxLen; omega) rfl
  have hb := below_alloc v12 (.cells #[] 22)
  have lt_v0 := size_alloc' v12 (.cells #[] 22)
  obtain ⟨B0, hB0⟩ : ∃ B0 : Nat, B0 = v12.heap.size := ⟨_, rfl⟩
  rw [← hB0] at ho0 ⊢
  have hB0l : B0 ≤ v12.heap.size ∧ v12.heap.size ≤ B0 := by omega
  clear hB0
  generalize hwn : v12.alloc (.cells #[] 22) = v13 at *
  clear hwn
  have sz13 : v12.heap.size ≤ v13.heap.size := hb.size
  replace x0_0 := cell_keep hb x0_0
  replace x0_1 := cell_keep hb x0_1
  replace HOW := Lib.hid (HOW.out.below hb)
  have HBh13 := Lib.hid (HBh12.out.trans (hb.mono (by have := HBh12.out.size; omega)))
  clear hb
  have HO0 := Lib.hid ho0
  clear ho0
  refine hK.out _ _ ?_ (fun hHeld => ?_)
  · exact ⟨x0_0, x0_1⟩
  clear hK K
  try simp only [List.getElem_toArray, List.getElem_cons_succ, List.getElem_cons_zero, Act.put, List.setIfInBounds_toArray, List.set_cons_zero, List.set_cons_succ]
  refine wpAnyH_take (i := 6) (v := ?_) rfl (by kernel_rfl) (by kernel_rfl) (by kernel_rfl) (fun _ _ _ h => h) (Or.inl ⟨by rfl, ?_⟩) (by assumption) ?_
  rotate_left
  · intro w9 hSw; (try dsimp only at hSw); go_simp; try with_reducible rfl
  try simp only [List.getElem_toArray, List.getElem_cons_succ, List.getElem_cons_zero, Act.put, List.setIfInBounds_toArray, List.set_cons_zero, List.set_cons_succ]
  refine wpAnyH_take (i := 7) (v := ?_) rfl (by kernel_rfl) (by kernel_rfl) (by kernel_rfl) (fun _ _ _ h => h) (Or.inl ⟨by rfl, ?_⟩) (by assumption) ?_
  rotate_left
  · intro w9 hSw; (try dsimp only at hSw); go_simp; try with_reducible rfl
  try simp only [List.getElem_toArray, List.getElem_cons_succ, List.getElem_cons_zero, Act.put, List.setIfInBounds_toArray, List.set_cons_zero, List.set_cons_succ]
  refine wpAnyH_take (i := 8) (v := ?_) rfl (by kernel_rfl) (by kernel_rfl) (by kernel_rfl) (fun _ _ _ h => h) (Or.inl ⟨by rfl, ?_⟩) (by assumption) ?_
  rotate_left
  · intro w9 hSw; (try dsimp only at hSw); go_simp; try with_reducible rfl
  try simp only [List.getElem_toArray, List.getElem_cons_succ, List.getElem_cons_zero, Act.put, List.setIfInBounds_toArray, List.set_cons_zero, List.set_cons_succ]
  refine wpAnyH_done (by kernel_rfl) ?_ _
  refine NoPanic.normal ?_
  clear hHeld
  clear HW x0_0 x0_1
  have HBE := Lib.hid HBh13.out
  have hsE := HBh13.out.size
  go_wp2_with fail
  go_loopw [5, 8] (fun v i wr => ∃ (k gl cp : Nat) (cs : List Value), k ≤ N ∧ i = .int .i64 k ∧ v = .slice (some ⟨gl, 0, none⟩) (ordTo p ws.length wn k).length cp ∧ wr.ownsRow w.heap.size 22 1 (.slice (some ⟨gl, 0, none⟩) (ordTo p ws.length wn k).length cp) (ordTo p ws.length wn k).length cs ∧ RowsOf w.heap.size wr.heap.size wr cs (ordTo p ws.length wn k) ∧ OwnB w.heap.size wr.heap.size wr (.slice (some ⟨g1, 0, none⟩) N cb) N p ∧ Below w.heap.size w wr) (fun _ i _ => N - (intOf i).toNat)
  case atStart => exact ⟨0, B0, 0, [], Nat.zero_le _, rfl, rfl, HO0.out, RowsOf.nil _ _ _, HOW.out.mono (by omega) (by omega), HBE.out⟩
  case round =>
    clear HO0 HOW HBE
    obtain ⟨k, gl, cp, cs, hk, rfl, rfl, ho, hro, how, hbel⟩ := hrel
    have HO := Lib.hid ho
    have HRO := Lib.hid hro
    have HOW := Lib.hid how
    have HBl := Lib.hid hbel
    obtain ⟨gq, cq, he, _, _, _, _, hcs⟩ := how.slice hp12.1
    cases he
    have hlen := ord_length p ws.length wn k
    by_cases hlt : k < N
    · have HED := Lib.hid (spec_edge ws.length N g1 cb p k wn wr h8 HN.out hlt hcs)
      have i1 : (0 : Int) ≤ (k : Int) := by omega
      have i2 : (k : Int) < (N : Int) := by omega
      clear ho hro how hbel hcs
      cases hed : edgeB p ws.length wn k
      · have HM := Lib.hid (ord_miss hed)
        rw [hed] at HED
        clear hed
        generalize ordTo p ws.length wn k = rows at *
        go_wp2_with fail
        refine HED.out.mono ?_
        rintro e w' ⟨rfl, rfl⟩
        go_wp2_with fail
        go_roundw
        case rel => exact ⟨k + 1, gl, cp, cs, by omega, by go_num, by rw [HM.out], by rw [HM.out]; exact HO.out, by rw [HM.out]; exact HRO.out, HOW.out, HBl.out⟩
        case measure => simp [intOf]; omega
      · have HM := Lib.hid (ord_hit hed)
        have HRW := Lib.hid (fun r (h : r ∈ ordTo p ws.length wn k) => Nat.le_trans (ord_rows h) h8)
        have hbl := bits_len ws.length k
        have HBI := Lib.hid (spec_bits ws.length k wr h8 (by omega))
        rw [hed] at HED
        clear hed
        generalize ordTo p ws.length wn k = rows at *
        generalize bitsL ws.length k = s at *
        go_wp2_with fail
        refine HED.out.mono ?_
        rintro e w' ⟨rfl, rfl⟩
        go_wp2_with fail
        refine HBI.out.mono ?_
        rintro e w5 ⟨v, rfl, hos, hb⟩
        obtain ⟨sa, sc, rfl, _, _, _⟩ := hos.slice
        have sz5 := hb.size
        have ho5 := ownsRow_block HO.out (fun g e => hb.block g (HO.out.lt g e).2)
        have HRO5 := Lib.hid ((HRO.out.below hb).mono (Nat.le_refl _) hb.size)
        have HRO5' := Lib.hid (HRO.out.below hb)
        have HOW5 := Lib.hid (HOW.out.below hb)
        have HB5 := Lib.hid (HBl.out.trans (hb.mono (by have := HBl.out.size; omega)))
        have HPU := Lib.hid (spec_put w.heap.size gl cp cs rows sa s sc w5 ho5 HRO5.out hos.reads (by omega) (by omega) HRW.out)
        have HOS := Lib.hid hos
        clear hb hos ho5 HED HBI
        go_wp2_with fail
        refine HPU.out.mono ?_
        rintro e w6 ⟨v', rfl, hown, hb⟩
        have sz6 := hb.size
        obtain ⟨g6, c6, rfl, hg6⟩ := own_form hown (by omega)
        have hcl : cs.length = rows.length := HRO.out.1
        have hins : insAt rows (plcL rows s) s = insL rows s := ins_eq rows s
        have hlen6 : (insL rows s).length = rows.length + 1 := ins_length rows s
        have HR6 := Lib.hid (show RowsOf w.heap.size w6.heap.size w6 (insAt cs (plcL rows s) (.slice sa s.length sc)) (insL rows s) from by
          rw [← hins]
          exact (rows_ins ((HRO5'.out.below hb).snoc (HOS.out.below hb) (by have := HBl.out.size; omega) sz5) hcl _ (by rw [hcl]; exact plc_le rows s)).mono (Nat.le_refl _) sz6)
        have HO6 := Lib.hid (show w6.ownsRow w.heap.size 22 1 (.slice (some ⟨g6, 0, none⟩) (insL rows s).length c6) (insL rows s).length (insAt cs (plcL rows s) (.slice sa s.length sc)) from by
          rw [hlen6]
          exact ownsRow_base hown (fun g e => by have := (hown.lt g e).1; have := HB5.out.size; omega))
        have HOW6 := Lib.hid ((HOW5.out.below hb).mono (Nat.le_refl _) (show w'.heap.size ≤ w6.heap.size by omega))
        have HB6 := Lib.hid (HB5.out.trans (hb.mono (by have := HB5.out.size; omega)))
        have HL6 := Lib.hid hlen6
        clear hown hb hins hcl hlen6
        go_wp2_with fail
        go_roundw
        case rel => exact ⟨k + 1, g6, c6, _, by omega, by go_num, by rw [HM.out, HL6.out], by rw [HM.out]; exact HO6.out, by rw [HM.out]; exact HR6.out, HOW6.out, HB6.out⟩
        case measure => simp [intOf]; omega
    · obtain rfl : k = N := by omega
      have hR : MadeG (ordTo p ws.length wn k) w (.returned (.slice (some ⟨gl, 0, none⟩) (ordTo p ws.length wn k).length cp)) wr := ⟨_, rfl, ⟨cs, ho, fun g e => (ho.lt g e).2, hro⟩, hbel⟩
      have HF := Lib.hid hR
      clear hR ho hro how hbel hcs HO HRO HOW HBl
      generalize ordTo p ws.length wn k = rows at *
      go_wp2_with fail
      go_ret
      exact HF.out
set_option maxRecDepth 100000 in
set_option maxHeartbeats 4000000 in
theorem lw_spec_no (a : Option Addr) (ws : List Int) (c : Nat) (q : Int) (w : World) (hr : ints.Reads .i64 w a ws) (hn : ws.length ≤ 1048576) (hk : voteB ws q = false) :
    Calls Try.prog 26 #[.agg #[.slice a ws.length c, .int .i64 q]] w (RetGB [] false w) := by
  have HV := Lib.hid (fun (wa : World) (hb : Below w.heap.size w wa) => vote.spec_vote a ws c q wa (hr.below hb) hn false (Lib.hid hk))
  clear hr hk
  go_enter Try.func26, Try.ntmps26
  obtain ⟨w0, hw0⟩ : ∃ w0 : World, w0 = w.alloc (.cells #[.slice a ws.length c, .int .i64 q] 34) := ⟨_, rfl⟩
  have x0 : w0.cell? ⟨w.heap.size, 0, none⟩ = some (.slice a ws.length c) := by rw [hw0]; exact cell_new _ _ _ rfl rfl
  have x1 : w0.cell? ⟨w.heap.size, 1, none⟩ = some (.int .i64 q) := by rw [hw0]; exact cell_new _ _ _ rfl rfl
  have HB0 := Lib.hid (show Below w.heap.size w w0 by rw [hw0]; exact below_alloc w (.cells #[.slice a ws.length c, .int .i64 q] 34))
  have s0 : w.heap.size + 1 ≤ w0.heap.size := by rw [hw0]; simp
  go_wp2_with fail
  rw [← hw0]
  clear hw0
  refine (HV.out _ HB0.out).mono ?_
  rintro e w1 ⟨rfl, hb1⟩
  have y0 := cell_below hb1 x0 (by omega)
  have y1 := cell_below hb1 x1 (by omega)
  have HB1 := Lib.hid (HB0.out.trans (hb1.mono (by omega)))
  have s1 := hb1.size
  clear hb1 x0 x1 HV
  go_wp2_with fail
  go_ret2
  exact ⟨_, rfl, ⟨[], World.ownsRow_made (base := w.heap.size) (e := 22) (size := 1) w1 #[] 0 (by omega) (by unfold maxLen; omega) rfl, fun g e => by (have e2 : w1.heap.size = g := by simpa [Value.ownBlock] using e); simp; omega, RowsOf.nil _ _ _⟩, HB1.out.trans ((below_alloc _ _).mono (by omega))⟩
set_option maxRecDepth 100000 in
set_option maxHeartbeats 4000000 in
theorem lw_spec_yes (a : Option Addr) (ws : List Int) (c : Nat) (q : Int) (w : World) (hr : ints.Reads .i64 w a ws) (hn : ws.length ≤ 1048576) (hk : voteB ws q = true) :
    Calls Try.prog 26 #[.agg #[.slice a ws.length c, .int .i64 q]] w (RetGB (ordTo (winB ws q) ws.length true (2 ^ ws.length)) true w) := by
  have HE := Lib.hid (fun (wa : World) (hb : Below w.heap.size w wa) => spec_edges a ws c q true wa (hr.below hb) hn hk)
  generalize ordTo (winB ws q) ws.length true (2 ^ ws.length) = rows at *
  have HV := Lib.hid (fun (wa : World) (hb : Below w.heap.size w wa) => vote.spec_vote a ws c q wa (hr.below hb) hn true (Lib.hid hk))
  clear hr hk
  go_enter Try.func26, Try.ntmps26
  obtain ⟨w0, hw0⟩ : ∃ w0 : World, w0 = w.alloc (.cells #[.slice a ws.length c, .int .i64 q] 34) := ⟨_, rfl⟩
  have x0 : w0.cell? ⟨w.heap.size, 0, none⟩ = some (.slice a ws.length c) := by rw [hw0]; exact cell_new _ _ _ rfl rfl
  have x1 : w0.cell? ⟨w.heap.size, 1, none⟩ = some (.int .i64 q) := by rw [hw0]; exact cell_new _ _ _ rfl rfl
  have HB0 := Lib.hid (show Below w.heap.size w w0 by rw [hw0]; exact below_alloc w (.cells #[.slice a ws.length c, .int .i64 q] 34))
  have s0 : w.heap.size + 1 ≤ w0.heap.size := by rw [hw0]; simp
  go_wp2_with fail
  rw [← hw0]
  clear hw0
  refine (HV.out _ HB0.out).mono ?_
  rintro e w1 ⟨rfl, hb1⟩
  have y0 := cell_below hb1 x0 (by omega)
  have y1 := cell_below hb1 x1 (by omega)
  have HB1 := Lib.hid (HB0.out.trans (hb1.mono (by omega)))
  have s1 := hb1.size
  clear hb1 x0 x1 HV
  go_wp2_with fail
  refine (HE.out _ HB1.out).mono ?_
  rintro e w2 ⟨v, rfl, ho, hb2⟩
  have HF := Lib.hid (show RetGB rows true w (.returned (.tuple #[v, .bool true])) w2 from ⟨v, rfl, ho.mono (by omega) (Nat.le_refl _), HB1.out.trans (hb2.mono (by omega))⟩)
  clear ho hb2
  go_wp2_with fail
  go_ret2
  exact HF.out
set_option maxRecDepth 100000 in
set_option maxHeartbeats 4000000 in
theorem gl_spec_no (a : Option Addr) (ws : List Int) (c : Nat) (q : Int) (w : World) (hr : ints.Reads .i64 w a ws) (hn : ws.length ≤ 1048576) (hk : voteB ws q = false) :
    Calls Try.prog 32 #[.agg #[.slice a ws.length c, .int .i64 q]] w (RetGB [] false w) := by
  have HV := Lib.hid (fun (wa : World) (hb : Below w.heap.size w wa) => vote.spec_vote a ws c q wa (hr.below hb) hn false (Lib.hid hk))
  clear hr hk
  go_enter Try.func32, Try.ntmps32
  obtain ⟨w0, hw0⟩ : ∃ w0 : World, w0 = w.alloc (.cells #[.slice a ws.length c, .int .i64 q] 34) := ⟨_, rfl⟩
  have x0 : w0.cell? ⟨w.heap.size, 0, none⟩ = some (.slice a ws.length c) := by rw [hw0]; exact cell_new _ _ _ rfl rfl
  have x1 : w0.cell? ⟨w.heap.size, 1, none⟩ = some (.int .i64 q) := by rw [hw0]; exact cell_new _ _ _ rfl rfl
  have HB0 := Lib.hid (show Below w.heap.size w w0 by rw [hw0]; exact below_alloc w (.cells #[.slice a ws.length c, .int .i64 q] 34))
  have s0 : w.heap.size + 1 ≤ w0.heap.size := by rw [hw0]; simp
  go_wp2_with fail
  rw [← hw0]
  clear hw0
  refine (HV.out _ HB0.out).mono ?_
  rintro e w1 ⟨rfl, hb1⟩
  have y0 := cell_below hb1 x0 (by omega)
  have y1 := cell_below hb1 x1 (by omega)
  have HB1 := Lib.hid (HB0.out.trans (hb1.mono (by omega)))
  have s1 := hb1.size
  clear hb1 x0 x1 HV
  go_wp2_with fail
  go_ret2
  exact ⟨_, rfl, ⟨[], World.ownsRow_made (base := w.heap.size) (e := 22) (size := 1) w1 #[] 0 (by omega) (by unfold maxLen; omega) rfl, fun g e => by (have e2 : w1.heap.size = g := by simpa [Value.ownBlock] using e); simp; omega, RowsOf.nil _ _ _⟩, HB1.out.trans ((below_alloc _ _).mono (by omega))⟩
set_option maxRecDepth 100000 in
set_option maxHeartbeats 4000000 in
theorem gl_spec_yes (a : Option Addr) (ws : List Int) (c : Nat) (q : Int) (w : World) (hr : ints.Reads .i64 w a ws) (hn : ws.length ≤ 1048576) (hk : voteB ws q = true) :
    Calls Try.prog 32 #[.agg #[.slice a ws.length c, .int .i64 q]] w (RetGB (ordTo (winB ws q) ws.length false (2 ^ ws.length)) true w) := by
  have HE := Lib.hid (fun (wa : World) (hb : Below w.heap.size w wa) => spec_edges a ws c q false wa (hr.below hb) hn hk)
  generalize ordTo (winB ws q) ws.length false (2 ^ ws.length) = rows at *
  have HV := Lib.hid (fun (wa : World) (hb : Below w.heap.size w wa) => vote.spec_vote a ws c q wa (hr.below hb) hn true (Lib.hid hk))
  clear hr hk
  go_enter Try.func32, Try.ntmps32
  obtain ⟨w0, hw0⟩ : ∃ w0 : World, w0 = w.alloc (.cells #[.slice a ws.length c, .int .i64 q] 34) := ⟨_, rfl⟩
  have x0 : w0.cell? ⟨w.heap.size, 0, none⟩ = some (.slice a ws.length c) := by rw [hw0]; exact cell_new _ _ _ rfl rfl
  have x1 : w0.cell? ⟨w.heap.size, 1, none⟩ = some (.int .i64 q) := by rw [hw0]; exact cell_new _ _ _ rfl rfl
  have HB0 := Lib.hid (show Below w.heap.size w w0 by rw [hw0]; exact below_alloc w (.cells #[.slice a ws.length c, .int .i64 q] 34))
  have s0 : w.heap.size + 1 ≤ w0.heap.size := by rw [hw0]; simp
  go_wp2_with fail
  rw [← hw0]
  clear hw0
  refine (HV.out _ HB0.out).mono ?_
  rintro e w1 ⟨rfl, hb1⟩
  have y0 := cell_below hb1 x0 (by omega)
  have y1 := cell_below hb1 x1 (by omega)
  have HB1 := Lib.hid (HB0.out.trans (hb1.mono (by omega)))
  have s1 := hb1.size
  clear hb1 x0 x1 HV
  go_wp2_with fail
  refine (HE.out _ HB1.out).mono ?_
  rintro e w2 ⟨v, rfl, ho, hb2⟩
  have HF := Lib.hid (show RetGB rows true w (.returned (.tuple #[v, .bool true])) w2 from ⟨v, rfl, ho.mono (by omega) (Nat.le_refl _), HB1.out.trans (hb2.mono (by omega))⟩)
  clear ho hb2
  go_wp2_with fail
  go_ret2
  exact HF.out
end Go.Proofs.Ytobdapalllaceaa.edges
