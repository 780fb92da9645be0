/- The walk of the library's DeleteFunc on a list of lists of a call's own, with a function that may make memory. -/
import Derived.Test.YtncidajjeccbkaaIdxF
import Derived.Test.YtncidajjeccbkaaSetsN
import Derived.Lib.SliceRun
namespace Go.Proofs.Ytncidajjeccbkaa.delf
open Go.RowKit own idxf setsn
set_option linter.unusedVariables false
set_option linter.unusedSimpArgs false

/-- The places below k where p holds. -/
def selTo (p : Nat → Bool) (k : Nat) : List Nat := (List.range k).filter p
theorem sel_hit {p : Nat → Bool} {k : Nat} (h : p k = true) : selTo p (k + 1) = selTo p k ++ [k] := by unfold selTo; rw [List.range_succ, List.filter_append]; simp [h]
theorem sel_miss {p : Nat → Bool} {k : Nat} (h : p k = false) : selTo p (k + 1) = selTo p k := by unfold selTo; rw [List.range_succ, List.filter_append]; simp [h]
theorem sel_nodup (p : Nat → Bool) (k : Nat) : (selTo p k).Nodup := List.Pairwise.filter _ List.nodup_range
theorem sel_lt {p : Nat → Bool} {k j : Nat} (h : j ∈ selTo p k) : j < k := List.mem_range.1 (List.mem_filter.1 h).1
theorem sel_length (p : Nat → Bool) (k : Nat) : (selTo p k).length ≤ k := by unfold selTo; have := List.length_filter_le p (List.range k); simpa using this
theorem sel_all {p : Nat → Bool} {k : Nat} (h : ∀ j, j < k → p j = true) : selTo p k = List.range k := by
  unfold selTo
  exact List.filter_eq_self.2 fun j hj => h j (List.mem_range.1 hj)
theorem map_range (cs : List Value) {n : Nat} (h : cs.length = n) : (List.range n).map (fun j => cs.getD j undef) = cs := by
  apply List.ext_getElem?
  intro i
  by_cases hi : i < n
  · rw [List.getElem?_map, List.getElem?_eq_getElem (by simpa using hi), List.getElem?_eq_getElem (by omega)]
    simp [List.getD_eq_getElem?_getD, List.getElem?_eq_getElem (show i < cs.length by omega)]
  · rw [List.getElem?_eq_none (by simp; omega), List.getElem?_eq_none (by omega)]
/-- A row with its first part filled, and the rest from a place on as it was. -/
structure Kept (cs xs : List Value) (p : Nat → Bool) (n j : Nat) : Prop where
  len : xs.length = n
  low : xs.take (selTo p j).length = (selTo p j).map fun k => cs.getD k undef
  high : ∀ i, j ≤ i → i < n → xs[i]? = some (cs.getD i undef)
theorem Kept.miss {cs xs : List Value} {p : Nat → Bool} {n j : Nat} (h : Kept cs xs p n j) (hp : p j = false) : Kept cs xs p n (j + 1) :=
  ⟨h.len, by rw [sel_miss hp]; exact h.low, fun i h1 h2 => h.high i (by omega) h2⟩
theorem Kept.hit {cs xs : List Value} {p : Nat → Bool} {n j : Nat} (h : Kept cs xs p n j) (hp : p j = true) (hj : j < n) (hlt : (selTo p j).length < j + 1) : Kept cs (xs.set (selTo p j).length (cs.getD j undef)) p n (j + 1) := by
  have hl := sel_length p j
  have hx := h.len
  refine ⟨by rw [List.length_set]; exact hx, ?_, fun i h1 h2 => ?_⟩
  · rw [sel_hit hp, List.length_append, List.map_append, ← h.low]
    show (xs.set _ _).take ((selTo p j).length + 1) = _
    have ho : (selTo p j).length < xs.length := by omega
    rw [List.take_set, List.take_succ_eq_append_getElem ho, List.set_append_right _ _ (by rw [List.length_take]; omega), List.length_take, Nat.min_eq_left (by omega), Nat.sub_self, List.set_cons_zero]
    rfl
  · rw [List.getElem?_set_ne (by omega)]
    exact h.high i (by omega) h2
theorem own_take {w : World} {base : Nat} {e : TypeId} {g n cap i : Nat} {xs : List Value} (h : w.ownsRow base e 1 (.slice (some ⟨g, 0, none⟩) n cap) n xs) (hi : i ≤ n) : w.ownsRow base e 1 (.slice (some ⟨g, 0, none⟩) i cap) i (xs.take i) := by
  have hx := h.1
  refine ⟨by rw [List.length_take]; omega, .inr ?_⟩
  rcases h.2 with ⟨e9, _⟩ | ⟨g9, cap9, cur, e9, hb, hh, hn, hm, hs, ht⟩
  · cases e9
  · cases e9
    refine ⟨g, cap, cur, rfl, hb, hh, by omega, hm, hs, ?_⟩
    rw [← ht, List.take_take, Nat.min_eq_left (by omega), Nat.mul_one]
/-- Cells stored one behind the other from a place on leave what is ahead of it. -/
theorem own_clear {base g n cap : Nat} {e : TypeId} : ∀ (vs : List Value) (o : Nat) (xs : List Value) (w : World), w.ownsRow base e 1 (.slice (some ⟨g, 0, none⟩) n cap) n xs → o + vs.length ≤ n → ∃ ys, (w.setCells g o vs).ownsRow base e 1 (.slice (some ⟨g, 0, none⟩) n cap) n ys ∧ ys.take o = xs.take o
  | [], o, xs, w, h, _ => ⟨xs, h, rfl⟩
  | v :: r, o, xs, w, h, hl => by
    rw [List.length_cons] at hl
    obtain ⟨ys, h1, h2⟩ := own_clear r (o + 1) (xs.set o v) (w.setCell ⟨g, o, none⟩ v) (h.stored o v).1 (by omega)
    refine ⟨ys, h1, ?_⟩
    have h3 : (ys.take (o + 1)).take o = ((xs.set o v).take (o + 1)).take o := by rw [h2]
    rw [List.take_take, List.take_take, Nat.min_eq_left (by omega)] at h3
    rw [h3, List.take_set_of_le (by omega)]
theorem stir_cells {S : Nat → Prop} {g : Nat} (hg : S g) : ∀ (vs : List Value) (o : Nat) (w a : World), Stir S a w → Stir S a (w.setCells g o vs)
  | [], _, _, _, h => h
  | v :: r, o, w, a, h => stir_cells hg r (o + 1) (w.setCell ⟨g, o, none⟩ v) a (h.trans ⟨rfl, rfl, rfl, by rw [size_set]; exact Nat.le_refl _, fun k _ hne => Below.heap_setCell _ _ _ _ (fun e => hne (by rw [e]; exact hg))⟩)
theorem stir_set {S : Nat → Prop} {g o : Nat} {v : Value} (hg : S g) {a w : World} (h : Stir S a w) : Stir S a (w.setCell ⟨g, o, none⟩ v) :=
  h.trans ⟨rfl, rfl, rfl, by rw [size_set]; exact Nat.le_refl _, fun k _ hne => Below.heap_setCell _ _ _ _ (fun e => hne (by rw [e]; exact hg))⟩
theorem zeroSl (w : World) : (zeroValue 30).run Try.prog w = .ok (.slice none 0 0) w := Try.zeroValue30 w
set_option maxRecDepth 100000 in
set_option maxHeartbeats 4000000 in
theorem del0 (fn : Nat) (he : Enters Try.prog fn) (lo g n cap : Nat) (cs : List Value) (p : Nat → Bool) (w : World) (hn : n ≤ 1048576) (ho : w.ownsRow lo 30 1 (.slice (some ⟨g, 0, none⟩) n cap) n cs) (h1c : ∀ k, k < n → ∃ pa ln lc, cs.getD k undef = .slice pa ln lc)
    (HC : Hid (∀ (k : Nat) (wr : World), k < n → Stir (fun b => b = g) w wr → Calls Try.prog fn #[cs.getD k undef] wr fun e w' => e = .returned (.bool (!(p k))) ∧ Below wr.heap.size wr w')) :
    Calls Try.prog 56 #[.slice (some ⟨g, 0, none⟩) n cap, .func (.func fn) #[] #[]] w (fun e w' => e = .returned (.slice (some ⟨g, 0, none⟩) (selTo p n).length cap) ∧ w'.ownsRow lo 30 1 (.slice (some ⟨g, 0, none⟩) (selTo p n).length cap) (selTo p n).length ((selTo p n).map fun k => cs.getD k undef) ∧ Stir (fun b => b = g) w w') := by
  have hg := ho.lt g rfl
  have hcl : cs.length = n := by have := ho.1; omega
  have HCL := Lib.hid hcl
  have hcap : n ≤ cap := by
    rcases ho.2 with ⟨e, _⟩ | ⟨g9, cap9, cur, e, _, _, h1, _⟩
    · cases e
    · cases e; exact h1
  have HI := Lib.hid (idx0 fn he  (some ⟨g, 0, none⟩) n cap (fun k => cs.getD k undef) (fun k => !(p k)) w hn
    (Lib.hid (fun k hk => ⟨g, 0, rfl, hg.2, by rw [Nat.zero_add, ho.cellAt k (by omega), List.getD_eq_getElem?_getD, List.getElem?_eq_getElem (by omega)]; rfl⟩)) (Lib.hid (fun k wr hk hb => HC.out k wr hk (Stir.of_below hb))))
  unfold Enters at he
  have H1C := Lib.hid h1c
  have HO := Lib.hid ho
  clear ho h1c hcl
  rcases fst_cases (fun k => !(p k)) n with ⟨e1, hall⟩ | ⟨k0, hk0, e1, hp0, hall⟩
  · rw [e1] at HI
    have hsel : selTo p n = List.range n := sel_all fun j hj => by simpa using hall j hj
    have HF := Lib.hid (show ∀ w' : World, Below w.heap.size w w' → (w'.ownsRow lo 30 1 (.slice (some ⟨g, 0, none⟩) (selTo p n).length cap) (selTo p n).length ((selTo p n).map fun k => cs.getD k undef) ∧ Stir (fun b => b = g) w w') from fun w' hb => by
      rw [hsel, map_range cs HCL.out, List.length_range]
      exact ⟨ownsRow_block HO.out (fun g9 e9 => hb.block g9 (HO.out.lt g9 e9).2), Stir.of_below hb⟩)
    have hlen : (selTo p n).length = n := by rw [hsel, List.length_range]
    have HL := Lib.hid hlen
    clear hall e1 hsel hlen HC he
    go_enter Try.func56, Try.ntmps56
    go_wp2_with fail
    refine HI.out.mono ?_
    rintro e w1 ⟨rfl, hb1⟩
    have HB1 := Lib.hid hb1
    clear hb1 HI
    go_wp2_with fail
    go_ret
    exact ⟨by rw [HL.out]; rfl, HF.out w1 HB1.out⟩
  · rw [e1] at HI
    have hp0' : p k0 = false := by simpa using hp0
    have hs0 : selTo p (k0 + 1) = List.range k0 := by rw [sel_miss hp0']; exact sel_all fun j hj => by simpa using hall j hj
    have HK0 := Lib.hid (show Kept cs cs p n (k0 + 1) from ⟨HCL.out, by
      rw [hs0, List.length_range]
      have := congrArg (List.take k0) (map_range cs HCL.out)
      rw [← this, ← List.map_take, List.take_range, Nat.min_eq_left (by omega)], fun i h1 h2 => by
      rw [List.getD_eq_getElem?_getD, List.getElem?_eq_getElem (by have := HCL.out; omega)]; rfl⟩)
    have hl0 : (selTo p (k0 + 1)).length = k0 := by rw [hs0, List.length_range]
    have hne1 : ((k0 : Int) == -1) = false := beq_eq_false_iff_ne.2 (by omega)
    have HL0 := Lib.hid hl0
    clear hall e1 hp0 hp0' hs0 hl0
    go_enter Try.func56, Try.ntmps56
    go_wp2_with fail
    refine HI.out.mono ?_
    rintro e w1 ⟨rfl, hb1⟩
    have HB1 := Lib.hid hb1
    have hown1 := ownsRow_block HO.out (fun g9 e9 => hb1.block g9 (HO.out.lt g9 e9).2)
    clear hb1 HI
    go_wp2_with fail
    go_loopw [5, 6] (fun s5 s6 wr => ∃ (j : Nat) (xs : List Value), k0 + 1 ≤ j ∧ j ≤ n ∧ s6 = .int .i64 j ∧ s5 = .int .i64 (((selTo p j).length : Nat) : Int) ∧ Hid (Kept cs xs p n j) ∧ wr.ownsRow lo 30 1 (.slice (some ⟨g, 0, none⟩) n cap) n xs ∧ Stir (fun b => b = g) w wr ∧ (selTo p j).length < j) (fun _ s6 _ => n - (intOf s6).toNat)
    case atStart => exact ⟨k0 + 1, cs, Nat.le_refl _, by omega, by go_num, by rw [HL0.out], HK0, hown1, Stir.of_below HB1.out, by rw [HL0.out]; omega⟩
    case round =>
      clear hown1 HK0
      obtain ⟨j, xs, hj0, hjn, rfl, rfl, HKP, hown, hst, hsl⟩ := hrel
      by_cases hlt : j < n
      · have hcj : wr.cell? ⟨g, j, none⟩ = some (cs.getD j undef) := by rw [hown.cellAt j (by omega), HKP.out.high j (Nat.le_refl _) hlt]
        have HF := Lib.hid (HC.out j wr hlt hst)
        obtain ⟨pa, ln, lc, hev⟩ := H1C.out j hlt
        have HOW := Lib.hid hown
        have HST := Lib.hid hst
        have i1 : (0 : Int) ≤ (j : Int) := by omega
        have i2 : (j : Int) < (n : Int) := by omega
        clear hown hst
        cases hp : p j
        · have HML := Lib.hid (show (selTo p (j + 1)).length = (selTo p j).length from by rw [sel_miss hp])
          have HKN := Lib.hid (HKP.out.miss hp)
          rw [hp] at HF
          clear hp HKP
          rw [hev] at hcj HF
          clear hev
          generalize (selTo p j).length = sl at *
          go_wp2_with fail
          refine HF.out.mono ?_
          rintro e w5 ⟨rfl, hb5⟩
          have HO5 := Lib.hid (ownsRow_block HOW.out (fun g9 e9 => hb5.block g9 (HOW.out.lt g9 e9).2))
          have HS5 := Lib.hid (HST.out.trans (Stir.of_below hb5))
          clear hb5 HF
          go_wp2_with fail
          go_roundw
          case rel => exact ⟨j + 1, xs, by omega, by omega, by go_num, by rw [HML.out], HKN, HO5.out, HS5.out, by rw [HML.out]; omega⟩
          case measure => simp [intOf]; omega
        · have HML := Lib.hid (show (selTo p (j + 1)).length = (selTo p j).length + 1 from by rw [sel_hit hp, List.length_append]; rfl)
          have HKN := Lib.hid (HKP.out.hit hp hlt (by omega))
          have hcs : ∃ old, wr.cell? ⟨g, (selTo p j).length, none⟩ = some old := by
            have hx := HKP.out.len
            have h2 := HOW.out.cellAt (selTo p j).length (by omega)
            rw [List.getElem?_eq_getElem (by omega)] at h2
            exact ⟨_, h2⟩
          obtain ⟨old, hold⟩ := hcs
          rw [hp] at HF
          clear hp HKP
          rw [hev] at hcj HF HKN
          clear hev
          generalize (selTo p j).length = sl at *
          go_wp2_with fail
          refine HF.out.mono ?_
          rintro e w5 ⟨rfl, hb5⟩
          have hgw : g < wr.heap.size := (HOW.out.lt g rfl).2
          have hold5 := cell_below hb5 hold hgw
          have hown5 := ownsRow_block HOW.out (fun g9 e9 => hb5.block g9 (HOW.out.lt g9 e9).2)
          have hfro5 := hown5.frozenAt sl
          have HO6 := Lib.hid (hown5.stored sl (.slice pa ln lc)).1
          have HS5 := Lib.hid (HST.out.trans (Stir.of_below hb5))
          have j1 : (0 : Int) ≤ (sl : Int) := by omega
          have j2 : (sl : Int) < (n : Int) := by omega
          clear hb5 HF hown5 hold
          go_wp2_with fail
          go_roundw
          case rel => exact ⟨j + 1, xs.set sl (.slice pa ln lc), by omega, by omega, by go_num, by rw [HML.out]; go_num, HKN, HO6.out, stir_set (S := fun b => b = g) rfl HS5.out, by rw [HML.out]; omega⟩
          case measure => simp [intOf]; omega
      · obtain rfl : j = n := by omega
        obtain ⟨ys, hy1, hy2⟩ := own_clear (List.replicate (j - (selTo p j).length) (.slice none 0 0)) (selTo p j).length xs wr hown (by simp; omega)
        have hfin := own_take hy1 (show (selTo p j).length ≤ j by omega)
        rw [hy2, HKP.out.low] at hfin
        have HFN := Lib.hid hfin
        have HSF := Lib.hid (stir_cells (S := fun b => b = g) rfl (List.replicate (j - (selTo p j).length) (.slice none 0 0)) (selTo p j).length wr w hst)
        have hclr : ∀ ty, (Builtin.clear_ #[22] ty #[.slice (some ⟨g, (selTo p j).length, none⟩) (j - (selTo p j).length) (cap - (selTo p j).length)]).run Try.prog wr = .ok (.tuple #[]) (wr.setCells g (selTo p j).length (List.replicate (j - (selTo p j).length) (.slice none 0 0))) :=
          fun ty => Lib.run_clear_slice wr _ _ ty _ Try.underlying22 zeroSl rfl rfl g (selTo p j).length _ _ (by omega) (fun t ht => by
            have hx := HKP.out.len
            rw [hown.cellAt _ (by omega), List.getElem?_eq_getElem (by omega)]; rfl) (fun t ht => hown.frozenAt _)
        have k1 : (0 : Int) ≤ (((selTo p j).length : Nat) : Int) := by omega
        have k2 : (((selTo p j).length : Nat) : Int) ≤ (j : Int) := by omega
        have k3 : ¬ ((selTo p j).length = cap) := by omega
        have k4 : ¬ (cap = (selTo p j).length) := by omega
        have k5 : (((selTo p j).length : Nat) : Int) ≤ (cap : Int) := by omega
        have k6 : (selTo p j).length ≤ cap := by omega
        clear hown hst hy1 hy2 hfin HC
        go_wp2_with fail
        go_ret
        exact ⟨rfl, HFN.out, HSF.out⟩
set_option maxRecDepth 100000 in
set_option maxHeartbeats 4000000 in
theorem del1 (fn : Nat) (he : Enters Try.prog fn) (c1 : Value) (lo g n cap : Nat) (cs : List Value) (p : Nat → Bool) (w : World) (hn : n ≤ 1048576) (ho : w.ownsRow lo 30 1 (.slice (some ⟨g, 0, none⟩) n cap) n cs) (h1c : ∀ k, k < n → ∃ pa ln lc, cs.getD k undef = .slice pa ln lc)
    (HC : Hid (∀ (k : Nat) (wr : World), k < n → Stir (fun b => b = g) w wr → Calls Try.prog fn #[cs.getD k undef, c1] wr fun e w' => e = .returned (.bool (!(p k))) ∧ Below wr.heap.size wr w')) :
    Calls Try.prog 56 #[.slice (some ⟨g, 0, none⟩) n cap, .func (.func fn) #[] #[c1]] w (fun e w' => e = .returned (.slice (some ⟨g, 0, none⟩) (selTo p n).length cap) ∧ w'.ownsRow lo 30 1 (.slice (some ⟨g, 0, none⟩) (selTo p n).length cap) (selTo p n).length ((selTo p n).map fun k => cs.getD k undef) ∧ Stir (fun b => b = g) w w') := by
  have hg := ho.lt g rfl
  have hcl : cs.length = n := by have := ho.1; omega
  have HCL := Lib.hid hcl
  have hcap : n ≤ cap := by
    rcases ho.2 with ⟨e, _⟩ | ⟨g9, cap9, cur, e, _, _, h1, _⟩
    · cases e
    · cases e; exact h1
  have HI := Lib.hid (idx1 fn he c1 (some ⟨g, 0, none⟩) n cap (fun k => cs.getD k undef) (fun k => !(p k)) w hn
    (Lib.hid (fun k hk => ⟨g, 0, rfl, hg.2, by rw [Nat.zero_add, ho.cellAt k (by omega), List.getD_eq_getElem?_getD, List.getElem?_eq_getElem (by omega)]; rfl⟩)) (Lib.hid (fun k wr hk hb => HC.out k wr hk (Stir.of_below hb))))
  unfold Enters at he
  have H1C := Lib.hid h1c
  have HO := Lib.hid ho
  clear ho h1c hcl
  rcases fst_cases (fun k => !(p k)) n with ⟨e1, hall⟩ | ⟨k0, hk0, e1, hp0, hall⟩
  · rw [e1] at HI
    have hsel : selTo p n = List.range n := sel_all fun j hj => by simpa using hall j hj
    have HF := Lib.hid (show ∀ w' : World, Below w.heap.size w w' → (w'.ownsRow lo 30 1 (.slice (some ⟨g, 0, none⟩) (selTo p n).length cap) (selTo p n).length ((selTo p n).map fun k => cs.getD k undef) ∧ Stir (fun b => b = g) w w') from fun w' hb => by
      rw [hsel, map_range cs HCL.out, List.length_range]
      exact ⟨ownsRow_block HO.out (fun g9 e9 => hb.block g9 (HO.out.lt g9 e9).2), Stir.of_below hb⟩)
    have hlen : (selTo p n).length = n := by rw [hsel, List.length_range]
    have HL := Lib.hid hlen
    clear hall e1 hsel hlen HC he
    go_enter Try.func56, Try.ntmps56
    go_wp2_with fail
    refine HI.out.mono ?_
    rintro e w1 ⟨rfl, hb1⟩
    have HB1 := Lib.hid hb1
    clear hb1 HI
    go_wp2_with fail
    go_ret
    exact ⟨by rw [HL.out]; rfl, HF.out w1 HB1.out⟩
  · rw [e1] at HI
    have hp0' : p k0 = false := by simpa using hp0
    have hs0 : selTo p (k0 + 1) = List.range k0 := by rw [sel_miss hp0']; exact sel_all fun j hj => by simpa using hall j hj
    have HK0 := Lib.hid (show Kept cs cs p n (k0 + 1) from ⟨HCL.out, by
      rw [hs0, List.length_range]
      have := congrArg (List.take k0) (map_range cs HCL.out)
      rw [← this, ← List.map_take, List.take_range, Nat.min_eq_left (by omega)], fun i h1 h2 => by
      rw [List.getD_eq_getElem?_getD, List.getElem?_eq_getElem (by have := HCL.out; omega)]; rfl⟩)
    have hl0 : (selTo p (k0 + 1)).length = k0 := by rw [hs0, List.length_range]
    have hne1 : ((k0 : Int) == -1) = false := beq_eq_false_iff_ne.2 (by omega)
    have HL0 := Lib.hid hl0
    clear hall e1 hp0 hp0' hs0 hl0
    go_enter Try.func56, Try.ntmps56
    go_wp2_with fail
    refine HI.out.mono ?_
    rintro e w1 ⟨rfl, hb1⟩
    have HB1 := Lib.hid hb1
    have hown1 := ownsRow_block HO.out (fun g9 e9 => hb1.block g9 (HO.out.lt g9 e9).2)
    clear hb1 HI
    go_wp2_with fail
    go_loopw [5, 6] (fun s5 s6 wr => ∃ (j : Nat) (xs : List Value), k0 + 1 ≤ j ∧ j ≤ n ∧ s6 = .int .i64 j ∧ s5 = .int .i64 (((selTo p j).length : Nat) : Int) ∧ Hid (Kept cs xs p n j) ∧ wr.ownsRow lo 30 1 (.slice (some ⟨g, 0, none⟩) n cap) n xs ∧ Stir (fun b => b = g) w wr ∧ (selTo p j).length < j) (fun _ s6 _ => n - (intOf s6).toNat)
    case atStart => exact ⟨k0 + 1, cs, Nat.le_refl _, by omega, by go_num, by rw [HL0.out], HK0, hown1, Stir.of_below HB1.out, by rw [HL0.out]; omega⟩
    case round =>
      clear hown1 HK0
      obtain ⟨j, xs, hj0, hjn, rfl, rfl, HKP, hown, hst, hsl⟩ := hrel
      by_cases hlt : j < n
      · have hcj : wr.cell? ⟨g, j, none⟩ = some (cs.getD j undef) := by rw [hown.cellAt j (by omega), HKP.out.high j (Nat.le_refl _) hlt]
        have HF := Lib.hid (HC.out j wr hlt hst)
        obtain ⟨pa, ln, lc, hev⟩ := H1C.out j hlt
        have HOW := Lib.hid hown
        have HST := Lib.hid hst
        have i1 : (0 : Int) ≤ (j : Int) := by omega
        have i2 : (j : Int) < (n : Int) := by omega
        clear hown hst
        cases hp : p j
        · have HML := Lib.hid (show (selTo p (j + 1)).length = (selTo p j).length from by rw [sel_miss hp])
          have HKN := Lib.hid (HKP.out.miss hp)
          rw [hp] at HF
          clear hp HKP
          rw [hev] at hcj HF
          clear hev
          generalize (selTo p j).length = sl at *
          go_wp2_with fail
          refine HF.out.mono ?_
          rintro e w5 ⟨rfl, hb5⟩
          have HO5 := Lib.hid (ownsRow_block HOW.out (fun g9 e9 => hb5.block g9 (HOW.out.lt g9 e9).2))
          have HS5 := Lib.hid (HST.out.trans (Stir.of_below hb5))
          clear hb5 HF
          go_wp2_with fail
          go_roundw
          case rel => exact ⟨j + 1, xs, by omega, by omega, by go_num, by rw [HML.out], HKN, HO5.out, HS5.out, by rw [HML.out]; omega⟩
          case measure => simp [intOf]; omega
        · have HML := Lib.hid (show (selTo p (j + 1)).length = (selTo p j).length + 1 from by rw [sel_hit hp, List.length_append]; rfl)
          have HKN := Lib.hid (HKP.out.hit hp hlt (by omega))
          have hcs : ∃ old, wr.cell? ⟨g, (selTo p j).length, none⟩ = some old := by
            have hx := HKP.out.len
            have h2 := HOW.out.cellAt (selTo p j).length (by omega)
            rw [List.getElem?_eq_getElem (by omega)] at h2
            exact ⟨_, h2⟩
          obtain ⟨old, hold⟩ := hcs
          rw [hp] at HF
          clear hp HKP
          rw [hev] at hcj HF HKN
          clear hev
          generalize (selTo p j).length = sl at *
          go_wp2_with fail
          refine HF.out.mono ?_
          rintro e w5 ⟨rfl, hb5⟩
          have hgw : g < wr.heap.size := (HOW.out.lt g rfl).2
          have hold5 := cell_below hb5 hold hgw
          have hown5 := ownsRow_block HOW.out (fun g9 e9 => hb5.block g9 (HOW.out.lt g9 e9).2)
          have hfro5 := hown5.frozenAt sl
          have HO6 := Lib.hid (hown5.stored sl (.slice pa ln lc)).1
          have HS5 := Lib.hid (HST.out.trans (Stir.of_below hb5))
          have j1 : (0 : Int) ≤ (sl : Int) := by omega
          have j2 : (sl : Int) < (n : Int) := by omega
          clear hb5 HF hown5 hold
          go_wp2_with fail
          go_roundw
          case rel => exact ⟨j + 1, xs.set sl (.slice pa ln lc), by omega, by omega, by go_num, by rw [HML.out]; go_num, HKN, HO6.out, stir_set (S := fun b => b = g) rfl HS5.out, by rw [HML.out]; omega⟩
          case measure => simp [intOf]; omega
      · obtain rfl : j = n := by omega
        obtain ⟨ys, hy1, hy2⟩ := own_clear (List.replicate (j - (selTo p j).length) (.slice none 0 0)) (selTo p j).length xs wr hown (by simp; omega)
        have hfin := own_take hy1 (show (selTo p j).length ≤ j by omega)
        rw [hy2, HKP.out.low] at hfin
        have HFN := Lib.hid hfin
        have HSF := Lib.hid (stir_cells (S := fun b => b = g) rfl (List.replicate (j - (selTo p j).length) (.slice none 0 0)) (selTo p j).length wr w hst)
        have hclr : ∀ ty, (Builtin.clear_ #[22] ty #[.slice (some ⟨g, (selTo p j).length, none⟩) (j - (selTo p j).length) (cap - (selTo p j).length)]).run Try.prog wr = .ok (.tuple #[]) (wr.setCells g (selTo p j).length (List.replicate (j - (selTo p j).length) (.slice none 0 0))) :=
          fun ty => Lib.run_clear_slice wr _ _ ty _ Try.underlying22 zeroSl rfl rfl g (selTo p j).length _ _ (by omega) (fun t ht => by
            have hx := HKP.out.len
            rw [hown.cellAt _ (by omega), List.getElem?_eq_getElem (by omega)]; rfl) (fun t ht => hown.frozenAt _)
        have k1 : (0 : Int) ≤ (((selTo p j).length : Nat) : Int) := by omega
        have k2 : (((selTo p j).length : Nat) : Int) ≤ (j : Int) := by omega
        have k3 : ¬ ((selTo p j).length = cap) := by omega
        have k4 : ¬ (cap = (selTo p j).length) := by omega
        have k5 : (((selTo p j).length : Nat) : Int) ≤ (cap : Int) := by omega
        have k6 : (selTo p j).length ≤ cap := by omega
        clear hown hst hy1 hy2 hfin HC
        go_wp2_with fail
        go_ret
        exact ⟨rfl, HFN.out, HSF.out⟩
end Go.Proofs.Ytncidajjeccbkaa.delf
