/- The walks of the model's and the program's NearestPair. -/
import Derived.Test.YtlgieeaccigbfaaWidth
import Derived.Test.YtlgieeaccigbfaaPointsWith
import Derived.Test.YtlgieeaccigbfaaSquares
import Derived.Test.YtlgieeaccigbfaaRets
namespace Go.Proofs.Ytlgieeaccigbfaa.near
open Go.RowKit own own1 pp nums samplesv samplest dots both sides most has width pointswith squares
set_option linter.unusedVariables false
set_option linter.unusedSimpArgs false
attribute [local go_sem ↓] Go.wp_at_zero Go.wp_at_succ

abbrev St := Int × Int × Int
def pairD (rows : List (List Int)) (i k : Nat) : Int := sq (rows.getD i []) (rows.getD k [])
/-- The nearest pair so far, behind one more pair: the model's. -/
def upd (rows : List (List Int)) (zs : List Int) (i k : Nat) (s : St) : St :=
  if zs.getD i 0 = 1 ∧ zs.getD k 0 = -1 ∧ (s.1 < 0 ∨ pairD rows i k < s.2.2) then ((i : Int), (k : Int), pairD rows i k) else s
def inn (rows : List (List Int)) (zs : List Int) (i : Nat) (s : St) : Nat → St
  | 0 => s
  | k + 1 => upd rows zs i k (inn rows zs i s k)
def outr (rows : List (List Int)) (zs : List Int) (n : Nat) : Nat → St
  | 0 => (-1, -1, 0)
  | i + 1 => inn rows zs i (outr rows zs n i) n
/-- The program's. -/
def updI (rows : List (List Int)) (i k : Nat) (s : St) : St := if pairD rows i k < s.2.2 then ((i : Int), (k : Int), pairD rows i k) else s
def innI (rows : List (List Int)) (i : Nat) (s : St) (os : List Int) : St := os.foldl (fun s o => updI rows i o.toNat s) s
def outI (rows : List (List Int)) (os : List Int) (ns : List Int) : St := ns.foldl (fun s i => innI rows i.toNat s os) (0, 0, 9223372036854775807)
theorem take_succ' (l : List Int) (k : Nat) (h : k < l.length) : l.take (k + 1) = l.take k ++ [l.getD k 0] := by
  rw [List.take_add_one, List.getElem?_eq_getElem h, List.getD_eq_getElem?_getD, List.getElem?_eq_getElem h]; rfl
theorem innI_succ (rows : List (List Int)) (i : Nat) (s : St) (os : List Int) (q : Nat) (h : q < os.length) : innI rows i s (os.take (q + 1)) = updI rows i (os.getD q 0).toNat (innI rows i s (os.take q)) := by
  rw [take_succ' _ _ h]; unfold innI; rw [List.foldl_append]; rfl
theorem outI_succ (rows : List (List Int)) (os ns : List Int) (q : Nat) (h : q < ns.length) : outI rows os (ns.take (q + 1)) = innI rows (ns.getD q 0).toNat (outI rows os (ns.take q)) os := by
  rw [take_succ' _ _ h]; unfold outI; rw [List.foldl_append]; rfl
theorem places_succ (p : Nat → Bool) (k : Nat) : placesTo p (k + 1) = placesTo p k ++ (if p k then [(k : Int)] else []) := by
  unfold placesTo
  rw [List.range_succ, List.filter_append, List.map_append]
  by_cases h : p k <;> simp [h]
def Rel (s t : St) : Prop := (s.1 < 0 ∧ t = (0, 0, 9223372036854775807)) ∨ (0 ≤ s.1 ∧ s = t)
theorem rel_inn {rows : List (List Int)} {zs : List Int} {i : Nat} {s t : St} (hr : Rel s t) (hi : zs.getD i 0 = 1) (k : Nat) (hb : ∀ j, j < k → pairD rows i j < 9223372036854775807) :
    Rel (inn rows zs i s k) (innI rows i t (placesTo (hasL zs (-1)) k)) := by
  induction k with
  | zero => exact hr
  | succ k ih =>
    have h1 := ih fun j hj => hb j (by omega)
    rw [places_succ]
    unfold inn upd
    by_cases hk : zs.getD k 0 = -1
    · have hL : hasL zs (-1) k = true := beq_iff_eq.2 hk
      rw [hL, if_pos rfl]
      unfold innI at h1 ⊢
      rw [List.foldl_append]
      generalize List.foldl (fun s o => updI rows i o.toNat s) t (placesTo (hasL zs (-1)) k) = t' at *
      generalize inn rows zs i s k = s' at *
      show Rel _ (updI rows i (k : Int).toNat t')
      rw [Int.toNat_natCast]
      unfold updI
      have hb' := hb k (by omega)
      rcases h1 with ⟨h2, rfl⟩ | ⟨h2, rfl⟩
      · rw [if_pos ⟨hi, hk, .inl h2⟩, if_pos hb']
        exact .inr ⟨by simp, rfl⟩
      · by_cases hd : pairD rows i k < s'.2.2
        · rw [if_pos ⟨hi, hk, .inr hd⟩, if_pos hd]
          exact .inr ⟨by simp, rfl⟩
        · rw [if_neg (fun h => hd (h.2.2.resolve_left (by omega))), if_neg hd]
          exact .inr ⟨h2, rfl⟩
    · have hL : hasL zs (-1) k = false := beq_eq_false_iff_ne.2 hk
      rw [hL, if_neg (fun h => hk h.2.1)]
      simpa using h1
theorem inn_skip {rows : List (List Int)} {zs : List Int} {i : Nat} {s : St} (hi : zs.getD i 0 ≠ 1) (k : Nat) : inn rows zs i s k = s := by
  induction k with
  | zero => rfl
  | succ k ih => unfold inn upd; rw [if_neg (fun h => hi h.1), ih]
theorem rel_out (rows : List (List Int)) (zs : List Int) (n m : Nat) (hb : ∀ i j, j < n → pairD rows i j < 9223372036854775807) :
    Rel (outr rows zs n m) (outI rows (placesTo (hasL zs (-1)) n) (placesTo (hasL zs 1) m)) := by
  induction m with
  | zero => exact .inl ⟨(by decide : (-1 : Int) < 0), rfl⟩
  | succ m ih =>
    rw [places_succ]
    unfold outr
    by_cases hk : zs.getD m 0 = 1
    · have hL : hasL zs 1 m = true := beq_iff_eq.2 hk
      rw [hL, if_pos rfl]
      unfold outI at ih ⊢
      rw [List.foldl_append]
      show Rel _ (innI rows (m : Int).toNat _ _)
      rw [Int.toNat_natCast]
      exact rel_inn ih hk n fun j hj => hb m j hj
    · have hL : hasL zs 1 m = false := beq_eq_false_iff_ne.2 hk
      rw [hL, inn_skip hk]
      simpa using ih
theorem upd_pos {rows : List (List Int)} {zs : List Int} {i k : Nat} {s : St} (h : 0 ≤ s.1) : 0 ≤ (upd rows zs i k s).1 := by
  unfold upd; split
  · simp
  · exact h
theorem inn_pos {rows : List (List Int)} {zs : List Int} {i : Nat} {s : St} (h : 0 ≤ s.1) (k : Nat) : 0 ≤ (inn rows zs i s k).1 := by
  induction k with
  | zero => exact h
  | succ k ih => exact upd_pos ih
theorem inn_hit {rows : List (List Int)} {zs : List Int} {i : Nat} {s : St} (hi : zs.getD i 0 = 1) (j : Nat) (hj : zs.getD j 0 = -1) (k : Nat) (h : j < k) : 0 ≤ (inn rows zs i s k).1 := by
  induction k with
  | zero => omega
  | succ k ih =>
    by_cases e : j < k
    · exact upd_pos (ih e)
    · obtain rfl : j = k := by omega
      unfold inn upd
      by_cases hs : (inn rows zs i s j).1 < 0
      · rw [if_pos ⟨hi, hj, .inl hs⟩]; simp
      · split
        · simp
        · omega
theorem out_hit {rows : List (List Int)} {zs : List Int} (n i : Nat) (hi : zs.getD i 0 = 1) (j : Nat) (hj : zs.getD j 0 = -1) (h : j < n) (m : Nat) (hm : i < m) : 0 ≤ (outr rows zs n m).1 := by
  induction m with
  | zero => omega
  | succ m ih =>
    by_cases e : i < m
    · exact inn_pos (ih e) n
    · obtain rfl : i = m := by omega
      exact inn_hit hi j hj n h

def res (rows : List (List Int)) (zs : List Int) : St := outr rows zs rows.length rows.length
theorem row_fit {rows : List (List Int)} {zs : List Int} (h : sampleB rows zs = true) (k : Nat) (hk : k < rows.length) : pointB (rows.getD k []) = true ∧ (rows.getD k []).length = (rows.getD 0 []).length := by
  have := all_at _ [] rows ((sampleB_iff _ _).1 h).2.2.2 k hk
  simpa using this
theorem pair_fit {rows : List (List Int)} {zs : List Int} (h : sampleB rows zs = true) (i k : Nat) (hi : i < rows.length) (hk : k < rows.length) : pairB (rows.getD i []) (rows.getD k []) = true ∧ pairD rows i k < 9223372036854775807 := by
  obtain ⟨a, b⟩ := row_fit h i hi
  obtain ⟨c, d⟩ := row_fit h k hk
  have hp := (pairB_iff _ _).2 ⟨a, c, by omega⟩
  have p := (pointB_iff _).1 a
  have q := (pointB_iff _).1 c
  have := sqTo_bd p.2.2 q.2.2 (by omega) (rows.getD i []).length (Nat.le_refl _)
  exact ⟨hp, by unfold pairD sq; omega⟩
theorem places_at (p : Nat → Bool) (n k : Nat) (h : k < (placesTo p n).length) : ∃ i, i < n ∧ (placesTo p n).getD k 0 = (i : Int) := by
  have hm : (placesTo p n).getD k 0 ∈ placesTo p n := getD_mem _ _ _ h
  unfold placesTo at hm
  rw [List.mem_map] at hm
  obtain ⟨i, hi, e⟩ := hm
  have := (List.mem_filter.1 hi).1
  exact ⟨i, by simpa using this, e.symm⟩
theorem res_eq {rows : List (List Int)} {zs : List Int} (h : mixB rows zs = true) : outI rows (placesTo (hasL zs (-1)) zs.length) (placesTo (hasL zs 1) zs.length) = res rows zs := by
  obtain ⟨h1, h2, h3⟩ := (mixB_iff _ _).1 h
  have hl := ((sampleB_iff _ _).1 h1).2.1
  obtain ⟨i, hi, ei⟩ := hasB_ex h2
  obtain ⟨j, hj, ej⟩ := hasB_ex h3
  rw [hl]
  have hb : ∀ i j, j < rows.length → pairD rows i j < 9223372036854775807 := by
    intro i j hj
    by_cases hi : i < rows.length
    · exact (pair_fit h1 i j hi hj).2
    · have e : rows.getD i [] = [] := by rw [List.getD_eq_getElem?_getD, List.getElem?_eq_none (by omega)]; rfl
      unfold pairD sq
      rw [e, List.length_nil, sqTo_zero]
      decide
  rcases rel_out rows zs rows.length rows.length hb with ⟨h4, _⟩ | ⟨_, e⟩
  · have h4' := h4
    have := out_hit (rows := rows) (zs := zs) rows.length i ei j ej (by omega) rows.length (by omega)
    omega
  · exact e.symm
set_option maxRecDepth 100000 in
set_option maxHeartbeats 4000000 in
theorem spec_no (a : Option Addr) (rows : List (List Int)) (c : Nat) (a' : Option Addr) (zs : List Int) (c' : Nat) (w : World) (hr : grid.Reads w a rows) (hz : ints.Reads .i64 w a' zs) (hn : rows.length ≤ 1048576) (hk : zs.length ≤ 1048576) (hm : ∀ r ∈ rows, r.length ≤ 1048576) (h : Hid (mixB rows zs = false)) :
    Calls Try.prog 61 #[.agg #[.slice a rows.length c, .slice a' zs.length c']] w (RetNNNB 0 0 0 false w) := by
  have HMM := Lib.hid hm
  clear hm
  have Hhr := Lib.hid hr
  have Hhz := Lib.hid hz
  clear hr hz
  go_enter Try.func61, Try.ntmps61
  go_wp2_with fail
  have x0_0 : (w.alloc (.cells #[.slice a rows.length c, .slice a' zs.length c'] 27)).cell? ⟨w.heap.size, 0, none⟩ = some (.slice a rows.length c) := cell_new _ _ _ (by simp) rfl
  have x0_1 : (w.alloc (.cells #[.slice a rows.length c, .slice a' zs.length c'] 27)).cell? ⟨w.heap.size, 1, none⟩ = some (.slice a' zs.length c') := cell_new _ _ _ (by simp) rfl
  have HB0 := Lib.hid (below_alloc w (.cells #[.slice a rows.length c, .slice a' zs.length c'] 27))
  have s0 : w.heap.size + 1 ≤ (w.alloc (.cells #[.slice a rows.length c, .slice a' zs.length c'] 27)).heap.size := by simp
  generalize hw : (w.alloc (.cells #[.slice a rows.length c, .slice a' zs.length c'] 27)) = w0 at *
  clear hw
  have n0_0 : w.heap.size < w0.heap.size := by omega
  refine (spec_mixed a rows c a' zs c' _ (Hhr.out.below HB0.out) (Hhz.out.below HB0.out) hn hk HMM.out false h).mono ?_
  rintro e w1 ⟨rfl, hb⟩
  have s1 : w0.heap.size ≤ w1.heap.size := hb.size
  have n1_0 : w.heap.size < w1.heap.size := by omega
  replace x0_0 := cell_below hb x0_0 (by omega)
  replace x0_1 := cell_below hb x0_1 (by omega)
  have HB1 := Lib.hid (HB0.out.trans (hb.mono (by omega)))
  clear hb
  go_wp2_with fail
  exact bodyPost_ret (v := .tuple #[.int .i64 0, .int .i64 0, .int .i64 0, .bool false]) (by simp [results, Try.results61, go_sem]) rfl ⟨rfl, HB1.out⟩
set_option maxRecDepth 100000 in
set_option maxHeartbeats 4000000 in
theorem spec_yes (a : Option Addr) (rows : List (List Int)) (c : Nat) (a' : Option Addr) (zs : List Int) (c' : Nat) (w : World) (hr : grid.Reads w a rows) (hz : ints.Reads .i64 w a' zs) (hn : rows.length ≤ 1048576) (hk : zs.length ≤ 1048576) (hm : ∀ r ∈ rows, r.length ≤ 1048576) (h : Hid (mixB rows zs = true)) :
    Calls Try.prog 61 #[.agg #[.slice a rows.length c, .slice a' zs.length c']] w (RetNNNB (res rows zs).1 (res rows zs).2.1 (res rows zs).2.2 true w) := by
  have HMM := Lib.hid hm
  clear hm
  have hs := ((mixB_iff _ _).1 h.out).1
  obtain ⟨s16, sl, s3, _⟩ := (sampleB_iff _ _).1 hs
  have HSm := Lib.hid hs
  have HLn := Lib.hid sl
  have HLb := Lib.hid (fun k hk => (labelB_iff _).1 (all_at _ 0 zs s3 k hk))
  clear hs sl s3
  have Hhr := Lib.hid hr
  have Hhz := Lib.hid hz
  clear hr hz
  go_enter Try.func61, Try.ntmps61
  go_wp2_with fail
  have x0_0 : (w.alloc (.cells #[.slice a rows.length c, .slice a' zs.length c'] 27)).cell? ⟨w.heap.size, 0, none⟩ = some (.slice a rows.length c) := cell_new _ _ _ (by simp) rfl
  have x0_1 : (w.alloc (.cells #[.slice a rows.length c, .slice a' zs.length c'] 27)).cell? ⟨w.heap.size, 1, none⟩ = some (.slice a' zs.length c') := cell_new _ _ _ (by simp) rfl
  have HB0 := Lib.hid (below_alloc w (.cells #[.slice a rows.length c, .slice a' zs.length c'] 27))
  have s0 : w.heap.size + 1 ≤ (w.alloc (.cells #[.slice a rows.length c, .slice a' zs.length c'] 27)).heap.size := by simp
  generalize hw : (w.alloc (.cells #[.slice a rows.length c, .slice a' zs.length c'] 27)) = w0 at *
  clear hw
  have n0_0 : w.heap.size < w0.heap.size := by omega
  refine (spec_mixed a rows c a' zs c' _ (Hhr.out.below HB0.out) (Hhz.out.below HB0.out) hn hk HMM.out true h).mono ?_
  rintro e w1 ⟨rfl, hb⟩
  have s1 : w0.heap.size ≤ w1.heap.size := hb.size
  have n1_0 : w.heap.size < w1.heap.size := by omega
  replace x0_0 := cell_below hb x0_0 (by omega)
  replace x0_1 := cell_below hb x0_1 (by omega)
  have HB1 := Lib.hid (HB0.out.trans (hb.mono (by omega)))
  clear hb
  go_wp2_with fail
  have HX := Lib.hid (show w1.cell? ⟨w.heap.size, 0, none⟩ = some (.slice a rows.length c) ∧ w1.cell? ⟨w.heap.size, 1, none⟩ = some (.slice a' zs.length c') from ⟨x0_0, x0_1⟩)
  clear x0_0 x0_1
  go_loopw [6, 7, 8, 9] (fun x y z i wr => ∃ k : Nat, k ≤ rows.length ∧ i = .int .i64 k ∧ (x = .int .i64 (outr rows zs rows.length k).1 ∧ y = .int .i64 (outr rows zs rows.length k).2.1 ∧ z = .int .i64 (outr rows zs rows.length k).2.2) ∧ Below w1.heap.size w1 wr) (fun _ _ _ i _ => rows.length - (intOf i).toNat)
  case atStart => exact ⟨0, Nat.zero_le _, rfl, ⟨rfl, rfl, rfl⟩, Below.refl _ _⟩
  case round =>
    obtain ⟨i, hi', rfl, ⟨rfl, rfl, rfl⟩, hbel⟩ := hrel
    have x0_0 := cell_below hbel HX.out.1 (by omega)
    have x0_1 := cell_below hbel HX.out.2 (by omega)
    have HBo := Lib.hid hbel
    clear hbel
    by_cases hlt : i < rows.length
    · have i1 : (0 : Int) ≤ (i : Int) := by omega
      have i2 : (i : Int) < (rows.length : Int) := by omega
      have i3 : (i : Int) < (zs.length : Int) := by have := HLn.out; omega
      obtain ⟨wo, hwo⟩ : ∃ wo : World, wo = wr := ⟨_, rfl⟩
      have HO := Lib.hid (show outr rows zs rows.length (i + 1) = inn rows zs i (outr rows zs rows.length i) rows.length from rfl)
      generalize outr rows zs rows.length i = so at *
      go_wp2_with fail
      go_loopw [6, 7, 8, 10] (fun x y z j wr => ∃ k : Nat, k ≤ rows.length ∧ j = .int .i64 k ∧ (x = .int .i64 (inn rows zs i so k).1 ∧ y = .int .i64 (inn rows zs i so k).2.1 ∧ z = .int .i64 (inn rows zs i so k).2.2) ∧ Below w1.heap.size w1 wr) (fun _ _ _ j _ => rows.length - (intOf j).toNat)
      case atStart => exact ⟨0, Nat.zero_le _, rfl, ⟨rfl, rfl, rfl⟩, HBo.out⟩
      case round =>
        obtain ⟨k, hk', rfl, ⟨rfl, rfl, rfl⟩, hbel⟩ := hrel
        replace x0_0 := cell_below hbel HX.out.1 (by omega)
        replace x0_1 := cell_below hbel HX.out.2 (by omega)
        have HBl := Lib.hid hbel
        by_cases hkt : k < rows.length
        · obtain ⟨bl, off, rp, rq, hab, hbl, hc, hpq, hrow⟩ := (Hhr.out.below HB1.out).at hlt
          subst hab
          obtain ⟨bl', off', rp', rq', hab, hbl', hc', hpq', hrow'⟩ := (Hhr.out.below HB1.out).at hkt
          obtain ⟨rfl, rfl⟩ : bl = bl' ∧ off = off' := by cases hab; exact ⟨rfl, rfl⟩
          obtain ⟨lb, lo, hlb, hll, hlc⟩ := (Hhz.out.below HB1.out).at (k := i) (by have := HLn.out; omega)
          subst hlb
          obtain ⟨lb', lo', hlb, hll', hlc'⟩ := (Hhz.out.below HB1.out).at (k := k) (by have := HLn.out; omega)
          obtain ⟨rfl, rfl⟩ : lb = lb' ∧ lo = lo' := by cases hlb; exact ⟨rfl, rfl⟩
          replace hc := cell_below hbel hc (by omega)
          replace hc' := cell_below hbel hc' (by omega)
          replace hlc := cell_below hbel hlc (by omega)
          replace hlc' := cell_below hbel hlc' (by omega)
          have hyi := HLb.out i (by have := HLn.out; omega)
          have hyk := HLb.out k (by have := HLn.out; omega)
          have hpf := (pairB_iff _ _).1 (pair_fit HSm.out i k hlt hkt).1
          have h4i := (pointB_iff _).1 hpf.1
          have h4k := (pointB_iff _).1 hpf.2.1
          have HC := Lib.hid (show ∀ m : Nat, Calls Try.prog 183 #[.slice rp (rows.getD i []).length rq, .slice rp' (rows.getD k []).length rq'] (wr.drewN m) (Tells (pairD rows i k) (wr.drewN m)) from fun m => spec_sq rp _ rq rp' _ rq' _ (hrow.below (ints.below_drewN HBl.out m)) (hrow'.below (ints.below_drewN HBl.out m)) (by omega) (by omega) h4i.2.2 h4k.2.2 hpf.2.2)
          have j1 : (0 : Int) ≤ (k : Int) := by omega
          have j2 : (k : Int) < (rows.length : Int) := by omega
          have j3 : (k : Int) < (zs.length : Int) := by have := HLn.out; omega
          have HU := Lib.hid (show inn rows zs i so (k + 1) = if zs.getD i 0 = 1 ∧ zs.getD k 0 = -1 ∧ ((inn rows zs i so k).1 < 0 ∨ pairD rows i k < (inn rows zs i so k).2.2) then ((i : Int), (k : Int), pairD rows i k) else inn rows zs i so k from rfl)
          clear hrow hpq hrow' hpq' hpf h4i h4k hbel hab hlb
          generalize pairD rows i k = d at *
          generalize rows.getD i [] = ri at *
          generalize rows.getD k [] = rk at *
          generalize zs.getD i 0 = zi at *
          generalize zs.getD k 0 = zk at *
          generalize hs : inn rows zs i so k = s at *
          clear hs
          obtain ⟨s1, s2, s3⟩ := s
          simp only at HU
          rcases hyi with rfl | rfl
          · rcases hyk with rfl | rfl
            · have HU2 := Lib.hid (HU.out.trans (if_neg (fun h => absurd h.2.1 (by decide))))
              clear HU HC
              go_wp2_with fail
              go_roundw
              case rel => exact ⟨k + 1, by omega, by go_num, by rw [HU2.out]; exact ⟨rfl, rfl, rfl⟩, HBl.out⟩
              case measure => simp [intOf]; omega
            · by_cases g : s1 < 0
              · have HU2 := Lib.hid (HU.out.trans (if_pos ⟨rfl, rfl, .inl g⟩))
                have g1 : decide (s1 < 0) = true := decide_eq_true g
                clear HU g
                go_wp2_with fail
                go_quiet ((go_at_call 183; exact Calls.quiet_of (HC.out _)))
                go_wp2_with fail
                go_roundw
                case rel => exact ⟨k + 1, by omega, by go_num, by rw [HU2.out]; exact ⟨rfl, rfl, rfl⟩, ints.below_drewN HBl.out _⟩
                case measure => simp [intOf]; omega
              · have g1 : decide (s1 < 0) = false := decide_eq_false g
                by_cases g' : d < s3
                · have HU2 := Lib.hid (HU.out.trans (if_pos ⟨rfl, rfl, .inr g'⟩))
                  have g2 : decide (d < s3) = true := decide_eq_true g'
                  clear HU g g'
                  go_wp2_with fail
                  go_quiet ((go_at_call 183; exact Calls.quiet_of (HC.out _)))
                  go_wp2_with fail
                  go_roundw
                  case rel => exact ⟨k + 1, by omega, by go_num, by rw [HU2.out]; exact ⟨rfl, rfl, rfl⟩, ints.below_drewN HBl.out _⟩
                  case measure => simp [intOf]; omega
                · have HU2 := Lib.hid (HU.out.trans (if_neg (fun h => h.2.2.elim g g')))
                  have g2 : decide (d < s3) = false := decide_eq_false g'
                  clear HU g g'
                  go_wp2_with fail
                  go_quiet ((go_at_call 183; exact Calls.quiet_of (HC.out _)))
                  go_wp2_with fail
                  go_roundw
                  case rel => exact ⟨k + 1, by omega, by go_num, by rw [HU2.out]; exact ⟨rfl, rfl, rfl⟩, ints.below_drewN HBl.out _⟩
                  case measure => simp [intOf]; omega
          · have HU2 := Lib.hid (HU.out.trans (if_neg (fun h => absurd h.1 (by decide))))
            clear HU HC hyk
            go_wp2_with fail
            go_roundw
            case rel => exact ⟨k + 1, by omega, by go_num, by rw [HU2.out]; exact ⟨rfl, rfl, rfl⟩, HBl.out⟩
            case measure => simp [intOf]; omega
        · obtain rfl : k = rows.length := by omega
          clear hbel
          go_wp2_with fail
          go_roundw
          case rel => exact ⟨i + 1, by omega, by go_num, by rw [HO.out]; exact ⟨rfl, rfl, rfl⟩, HBl.out⟩
          case measure => simp [intOf]; omega
    · obtain rfl : i = rows.length := by omega
      have HBE := Lib.hid (HB1.out.trans (HBo.out.mono (by omega)))
      go_wp2_with fail
      exact bodyPost_ret (v := .tuple #[.int .i64 (res rows zs).1, .int .i64 (res rows zs).2.1, .int .i64 (res rows zs).2.2, .bool true]) (by simp [results, Try.results61, go_sem, res]) rfl ⟨rfl, HBE.out⟩
set_option maxRecDepth 100000 in
set_option maxHeartbeats 4000000 in
theorem impl_no (a : Option Addr) (rows : List (List Int)) (c : Nat) (a' : Option Addr) (zs : List Int) (c' : Nat) (w : World) (hr : grid.Reads w a rows) (hz : ints.Reads .i64 w a' zs) (hn : rows.length ≤ 1048576) (hk : zs.length ≤ 1048576) (hm : ∀ r ∈ rows, r.length ≤ 1048576) (h : Hid (mixB rows zs = false)) :
    Calls Try.prog 62 #[.agg #[.slice a rows.length c, .slice a' zs.length c']] w (RetNNNB 0 0 0 false w) := by
  have HMM := Lib.hid hm
  clear hm
  have Hhr := Lib.hid hr
  have Hhz := Lib.hid hz
  clear hr hz
  go_enter Try.func62, Try.ntmps62
  go_wp2_with fail
  have x0_0 : (w.alloc (.cells #[.slice a rows.length c, .slice a' zs.length c'] 27)).cell? ⟨w.heap.size, 0, none⟩ = some (.slice a rows.length c) := cell_new _ _ _ (by simp) rfl
  have x0_1 : (w.alloc (.cells #[.slice a rows.length c, .slice a' zs.length c'] 27)).cell? ⟨w.heap.size, 1, none⟩ = some (.slice a' zs.length c') := cell_new _ _ _ (by simp) rfl
  have HB0 := Lib.hid (below_alloc w (.cells #[.slice a rows.length c, .slice a' zs.length c'] 27))
  have s0 : w.heap.size + 1 ≤ (w.alloc (.cells #[.slice a rows.length c, .slice a' zs.length c'] 27)).heap.size := by simp
  generalize hw : (w.alloc (.cells #[.slice a rows.length c, .slice a' zs.length c'] 27)) = w0 at *
  clear hw
  have n0_0 : w.heap.size < w0.heap.size := by omega
  refine (impl_mixed a rows c a' zs c' _ (Hhr.out.below HB0.out) (Hhz.out.below HB0.out) hn hk HMM.out false h).mono ?_
  rintro e w1 ⟨rfl, hb⟩
  have s1 : w0.heap.size ≤ w1.heap.size := hb.size
  have n1_0 : w.heap.size < w1.heap.size := by omega
  replace x0_0 := cell_below hb x0_0 (by omega)
  replace x0_1 := cell_below hb x0_1 (by omega)
  have HB1 := Lib.hid (HB0.out.trans (hb.mono (by omega)))
  clear hb
  go_wp2_with fail
  exact bodyPost_ret (v := .tuple #[.int .i64 0, .int .i64 0, .int .i64 0, .bool false]) (by simp [results, Try.results62, go_sem]) rfl ⟨rfl, HB1.out⟩
set_option maxRecDepth 100000 in
set_option maxHeartbeats 4000000 in
theorem impl_yes (a : Option Addr) (rows : List (List Int)) (c : Nat) (a' : Option Addr) (zs : List Int) (c' : Nat) (w : World) (hr : grid.Reads w a rows) (hz : ints.Reads .i64 w a' zs) (hn : rows.length ≤ 1048576) (hk : zs.length ≤ 1048576) (hm : ∀ r ∈ rows, r.length ≤ 1048576) (h : Hid (mixB rows zs = true)) :
    Calls Try.prog 62 #[.agg #[.slice a rows.length c, .slice a' zs.length c']] w (RetNNNB (res rows zs).1 (res rows zs).2.1 (res rows zs).2.2 true w) := by
  have HMM := Lib.hid hm
  clear hm
  have hs := ((mixB_iff _ _).1 h.out).1
  obtain ⟨s16, sl, s3, _⟩ := (sampleB_iff _ _).1 hs
  have HSm := Lib.hid hs
  have HLn := Lib.hid sl
  have HLb := Lib.hid (fun k hk => (labelB_iff _).1 (all_at _ 0 zs s3 k hk))
  clear hs sl s3
  have HW1 : Hid (swB rows zs 1 = true) := Lib.hid (by unfold swB; rw [HSm.out]; rfl)
  have HW2 : Hid (swB rows zs (-1) = true) := Lib.hid (by unfold swB; rw [HSm.out]; rfl)
  have HP1 := Lib.hid (fun k (hk : k < (placesTo (hasL zs 1) zs.length).length) => (by obtain ⟨i, hi, e⟩ := places_at (hasL zs 1) zs.length k hk; exact ⟨i, by have := HLn.out; omega, e⟩ : ∃ i, i < rows.length ∧ (placesTo (hasL zs 1) zs.length).getD k 0 = (i : Int)))
  have HP2 := Lib.hid (fun k (hk : k < (placesTo (hasL zs (-1)) zs.length).length) => (by obtain ⟨i, hi, e⟩ := places_at (hasL zs (-1)) zs.length k hk; exact ⟨i, by have := HLn.out; omega, e⟩ : ∃ i, i < rows.length ∧ (placesTo (hasL zs (-1)) zs.length).getD k 0 = (i : Int)))
  have HL1 := Lib.hid (show (placesTo (hasL zs 1) zs.length).length ≤ 16 from by have := placesTo_length (hasL zs 1) zs.length; have := HLn.out; omega)
  have HL2 := Lib.hid (show (placesTo (hasL zs (-1)) zs.length).length ≤ 16 from by have := placesTo_length (hasL zs (-1)) zs.length; have := HLn.out; omega)
  have HRES := Lib.hid (res_eq h.out)
  have Hhr := Lib.hid hr
  have Hhz := Lib.hid hz
  clear hr hz
  go_enter Try.func62, Try.ntmps62
  go_wp2_with fail
  have x0_0 : (w.alloc (.cells #[.slice a rows.length c, .slice a' zs.length c'] 27)).cell? ⟨w.heap.size, 0, none⟩ = some (.slice a rows.length c) := cell_new _ _ _ (by simp) rfl
  have x0_1 : (w.alloc (.cells #[.slice a rows.length c, .slice a' zs.length c'] 27)).cell? ⟨w.heap.size, 1, none⟩ = some (.slice a' zs.length c') := cell_new _ _ _ (by simp) rfl
  have HB0 := Lib.hid (below_alloc w (.cells #[.slice a rows.length c, .slice a' zs.length c'] 27))
  have s0 : w.heap.size + 1 ≤ (w.alloc (.cells #[.slice a rows.length c, .slice a' zs.length c'] 27)).heap.size := by simp
  generalize hw : (w.alloc (.cells #[.slice a rows.length c, .slice a' zs.length c'] 27)) = w0 at *
  clear hw
  have n0_0 : w.heap.size < w0.heap.size := by omega
  refine (impl_mixed a rows c a' zs c' _ (Hhr.out.below HB0.out) (Hhz.out.below HB0.out) hn hk HMM.out true h).mono ?_
  rintro e w1 ⟨rfl, hb⟩
  have s1 : w0.heap.size ≤ w1.heap.size := hb.size
  have n1_0 : w.heap.size < w1.heap.size := by omega
  replace x0_0 := cell_below hb x0_0 (by omega)
  replace x0_1 := cell_below hb x0_1 (by omega)
  have HB1 := Lib.hid (HB0.out.trans (hb.mono (by omega)))
  clear hb
  go_wp2_with fail
  refine (pointswith.impl_yes a rows c a' zs c' (1) _ (Hhr.out.below HB1.out) (Hhz.out.below HB1.out) hn hk HMM.out HW1).mono ?_
  rintro e w2 ⟨v, rfl, ho, hb⟩
  obtain ⟨p1, q1, rfl, _, _, _⟩ := ho.slice
  have HO1 := Lib.hid ho
  clear ho
  have s2 : w1.heap.size ≤ w2.heap.size := hb.size
  have n2_0 : w.heap.size < w2.heap.size := by omega
  replace x0_0 := cell_below hb x0_0 (by omega)
  replace x0_1 := cell_below hb x0_1 (by omega)
  have HB2 := Lib.hid (HB1.out.trans (hb.mono (by omega)))
  clear hb
  go_wp2_with fail
  refine (pointswith.impl_yes a rows c a' zs c' (-1) _ (Hhr.out.below HB2.out) (Hhz.out.below HB2.out) hn hk HMM.out HW2).mono ?_
  rintro e w3 ⟨v, rfl, ho, hb⟩
  obtain ⟨p2, q2, rfl, _, _, _⟩ := ho.slice
  have HO2 := Lib.hid ho
  clear ho
  have s3 : w2.heap.size ≤ w3.heap.size := hb.size
  have n3_0 : w.heap.size < w3.heap.size := by omega
  replace x0_0 := cell_below hb x0_0 (by omega)
  replace x0_1 := cell_below hb x0_1 (by omega)
  replace HO1 := Lib.hid (HO1.out.below hb)
  have HB3 := Lib.hid (HB2.out.trans (hb.mono (by omega)))
  clear hb
  generalize placesTo (hasL zs 1) zs.length = ns at *
  generalize placesTo (hasL zs (-1)) zs.length = os at *
  have HX := Lib.hid (show w3.cell? ⟨w.heap.size, 0, none⟩ = some (.slice a rows.length c) from x0_0)
  clear x0_0 x0_1
  have hl1 := HL1.out
  have hl2 := HL2.out
  go_wp2_with fail
  go_loopw [10, 11, 12, 34] (fun x y z i wr => ∃ k : Nat, k ≤ ns.length ∧ i = .int .i64 k ∧ (x = .int .i64 (outI rows os (ns.take k)).1 ∧ y = .int .i64 (outI rows os (ns.take k)).2.1 ∧ z = .int .i64 (outI rows os (ns.take k)).2.2) ∧ Below w3.heap.size w3 wr) (fun _ _ _ i _ => ns.length - (intOf i).toNat)
  case atStart => exact ⟨0, Nat.zero_le _, rfl, ⟨rfl, rfl, rfl⟩, Below.refl _ _⟩
  case round =>
    obtain ⟨m, hm', rfl, ⟨rfl, rfl, rfl⟩, hbel⟩ := hrel
    have HBo := Lib.hid hbel
    by_cases hlt : m < ns.length
    · obtain ⟨i, hi, ei⟩ := HP1.out m hlt
      obtain ⟨nb, no, hnb, hnl, hnc⟩ := HO1.out.reads.at hlt
      subst hnb
      replace hnc := cell_below hbel hnc (by omega)
      have HO := Lib.hid (outI_succ rows os ns m hlt)
      rw [ei] at hnc HO
      rw [Int.toNat_natCast] at HO
      have m1 : (0 : Int) ≤ (m : Int) := by omega
      have m2 : (m : Int) < (ns.length : Int) := by omega
      have i1 : (0 : Int) ≤ (i : Int) := by omega
      have i2 : (i : Int) < (rows.length : Int) := by omega
      clear hbel ei
      obtain ⟨wo, hwo⟩ : ∃ wo : World, wo = wr := ⟨_, rfl⟩
      generalize outI rows os (ns.take m) = so at *
      go_wp2_with fail
      go_loopw [10, 11, 12, 40] (fun x y z j wr => ∃ k : Nat, k ≤ os.length ∧ j = .int .i64 k ∧ (x = .int .i64 (innI rows i so (os.take k)).1 ∧ y = .int .i64 (innI rows i so (os.take k)).2.1 ∧ z = .int .i64 (innI rows i so (os.take k)).2.2) ∧ Below w3.heap.size w3 wr) (fun _ _ _ j _ => os.length - (intOf j).toNat)
      case atStart => exact ⟨0, Nat.zero_le _, rfl, ⟨rfl, rfl, rfl⟩, HBo.out⟩
      case round =>
        obtain ⟨q, hq', rfl, ⟨rfl, rfl, rfl⟩, hbel⟩ := hrel
        have HBl := Lib.hid hbel
        by_cases hqt : q < os.length
        · obtain ⟨k, hk9, ek⟩ := HP2.out q hqt
          obtain ⟨ob, oo, hob, hol, hoc⟩ := HO2.out.reads.at hqt
          subst hob
          replace hoc := cell_below hbel hoc (by omega)
          have HU := Lib.hid (innI_succ rows i so os q hqt)
          rw [ek] at hoc HU
          rw [Int.toNat_natCast] at HU
          obtain ⟨bl, off, rp, rq, hab, hbl, hc, hpq, hrow⟩ := (Hhr.out.below HB3.out).at hi
          subst hab
          obtain ⟨bl', off', rp', rq', hab, hbl', hc', hpq', hrow'⟩ := (Hhr.out.below HB3.out).at hk9
          obtain ⟨rfl, rfl⟩ : bl = bl' ∧ off = off' := by cases hab; exact ⟨rfl, rfl⟩
          replace hc := cell_below hbel hc (by omega)
          replace hc' := cell_below hbel hc' (by omega)
          have x0 := cell_below hbel HX.out (by omega)
          have hpf := (pair_fit HSm.out i k hi hk9).1
          have h4 := (pairB_iff _ _).1 hpf
          have h4i := ((pointB_iff _).1 h4.1).2.1
          have h4k := ((pointB_iff _).1 h4.2.1).2.1
          have HT := Lib.hid (show ∀ wa : World, (wa.cell? ⟨w.heap.size, 0, none⟩ = some (.slice (some ⟨bl, off, none⟩) rows.length c) ∧ wa.cell? ⟨bl, off + i, none⟩ = some (.slice rp (rows.getD i []).length rq) ∧ wa.cell? ⟨bl, off + k, none⟩ = some (.slice rp' (rows.getD k []).length rq') ∧ Below w3.heap.size w3 wa) → Calls Try.prog 185 #[.slice rp (rows.getD i []).length rq, .slice rp' (rows.getD k []).length rq'] wa fun e w' => e = .returned (.tuple #[.int .i64 (pairD rows i k), .bool true]) ∧ (w'.cell? ⟨w.heap.size, 0, none⟩ = some (.slice (some ⟨bl, off, none⟩) rows.length c) ∧ w'.cell? ⟨bl, off + i, none⟩ = some (.slice rp (rows.getD i []).length rq) ∧ w'.cell? ⟨bl, off + k, none⟩ = some (.slice rp' (rows.getD k []).length rq') ∧ Below w3.heap.size w3 w') from fun wa hS => by
            have hz' := hS.2.2.2.size
            refine (squares.impl_yes rp _ rq rp' _ rq' wa (hrow.below hS.2.2.2) (hrow'.below hS.2.2.2) (by omega) (by omega) (Lib.hid hpf)).mono ?_
            rintro e w' ⟨rfl, hb⟩
            exact ⟨rfl, cell_below hb hS.1 (by omega), cell_below hb hS.2.1 (by omega), cell_below hb hS.2.2.1 (by omega), hS.2.2.2.trans (hb.mono (by omega))⟩)
          have q1 : (0 : Int) ≤ (q : Int) := by omega
          have q2 : (q : Int) < (os.length : Int) := by omega
          have k1 : (0 : Int) ≤ (k : Int) := by omega
          have k2 : (k : Int) < (rows.length : Int) := by omega
          have HD := Lib.hid (show updI rows i k (innI rows i so (os.take q)) = if pairD rows i k < (innI rows i so (os.take q)).2.2 then ((i : Int), (k : Int), pairD rows i k) else innI rows i so (os.take q) from rfl)
          clear hrow hpq hrow' hpq' hpf h4 h4i h4k hbel hab ek
          generalize pairD rows i k = d at *
          generalize rows.getD i [] = ri at *
          generalize rows.getD k [] = rk at *
          generalize innI rows i so (os.take q) = s at *
          obtain ⟨s1, s2, s3⟩ := s
          simp only at HD
          go_wp2_with fail
          go_region_held3 (fun w' => w'.cell? ⟨w.heap.size, 0, none⟩ = some (.slice (some ⟨bl, off, none⟩) rows.length c) ∧ w'.cell? ⟨bl, off + i, none⟩ = some (.slice rp ri.length rq) ∧ w'.cell? ⟨bl, off + k, none⟩ = some (.slice rp' rk.length rq') ∧ Below w3.heap.size w3 w') (first | assumption | exact ⟨x0, hc, hc', HBl.out⟩ | exact ⟨x0, hc, hc', HBl.out.drew⟩) (first | (go_at_call 185; refine Calls.mono (HT.out _ (by assumption)) ?_; rintro e wq ⟨rfl, hbx⟩))
          have HBq := Lib.hid hbx.2.2.2
          clear hbx HT
          by_cases g : d < s3
          · have HU2 := Lib.hid (HU.out.trans (HD.out.trans (if_pos g)))
            have g1 : decide (d < s3) = true := decide_eq_true g
            clear HU HD g
            go_wp2_with fail
            go_roundw
            case rel => exact ⟨q + 1, by omega, by go_num, by rw [HU2.out]; exact ⟨rfl, rfl, rfl⟩, HBq.out⟩
            case measure => simp [intOf]; omega
          · have HU2 := Lib.hid (HU.out.trans (HD.out.trans (if_neg g)))
            have g1 : decide (d < s3) = false := decide_eq_false g
            clear HU HD g
            go_wp2_with fail
            go_roundw
            case rel => exact ⟨q + 1, by omega, by go_num, by rw [HU2.out]; exact ⟨rfl, rfl, rfl⟩, HBq.out⟩
            case measure => simp [intOf]; omega
        · obtain rfl : q = os.length := by omega
          rw [List.take_length]
          clear hbel
          go_wp2_with fail
          go_roundw
          case rel => exact ⟨m + 1, by omega, by go_num, by rw [HO.out]; exact ⟨rfl, rfl, rfl⟩, HBl.out⟩
          case measure => simp [intOf]; omega
    · obtain rfl : m = ns.length := by omega
      have HBE := Lib.hid (HB3.out.trans (HBo.out.mono (by omega)))
      rw [List.take_length, HRES.out]
      clear hbel
      go_wp2_with fail
      exact bodyPost_ret (v := .tuple #[.int .i64 (res rows zs).1, .int .i64 (res rows zs).2.1, .int .i64 (res rows zs).2.2, .bool true]) (by simp [results, Try.results62, go_sem]) rfl ⟨rfl, HBE.out⟩
end Go.Proofs.Ytlgieeaccigbfaa.near
