/- Several texts in one. -/
import Derived.Test.YthohnnobahcdpaaHefts
import Derived.Test.YthohnnobahcdpaaBrG11
namespace Go.Proofs.Ythohnnobahcdpaa.wm
open Go.RowKit own pp nums range samplesv samplest dots both sides sidesof hefts
set_option linter.unusedVariables false
set_option linter.unusedSimpArgs false

/-- The weighted mistakes among the first k points. -/
def wmTo (rows : List (List Int)) (zs hs ws : List Int) (b : Int) : Nat → Int
  | 0 => 0
  | k + 1 => wmTo rows zs hs ws b k + (if (side ws b (rows.getD k []) != zs.getD k 0) = true then hs.getD k 0 else 0)
def wmB (rows : List (List Int)) (zs hs ws : List Int) (b : Int) : Bool := bothB rows zs ws b && heftsB rows hs
theorem wm_hit (rows : List (List Int)) (zs hs ws : List Int) (b : Int) (k : Nat) (h : (side ws b (rows.getD k []) != zs.getD k 0) = true) : wmTo rows zs hs ws b (k + 1) = wmTo rows zs hs ws b k + hs.getD k 0 := by
  show wmTo rows zs hs ws b k + (if (side ws b (rows.getD k []) != zs.getD k 0) = true then hs.getD k 0 else 0) = _
  rw [h, if_pos rfl]
theorem wm_miss (rows : List (List Int)) (zs hs ws : List Int) (b : Int) (k : Nat) (h : (side ws b (rows.getD k []) != zs.getD k 0) = false) : wmTo rows zs hs ws b (k + 1) = wmTo rows zs hs ws b k := by
  show wmTo rows zs hs ws b k + (if (side ws b (rows.getD k []) != zs.getD k 0) = true then hs.getD k 0 else 0) = _
  rw [h, if_neg (by simp), Int.add_zero]
theorem wm_bd {rows : List (List Int)} {zs hs ws : List Int} {b : Int} (h : numsR 0 1000000 hs = true) (k : Nat) (hk : k ≤ hs.length) : 0 ≤ wmTo rows zs hs ws b k ∧ wmTo rows zs hs ws b k ≤ 1000000 * (k : Int) := by
  induction k with
  | zero => simp [wmTo]
  | succ k ih =>
    have h1 := ih (by omega)
    have h2 := numsR_at h k (by omega)
    cases hx : (side ws b (rows.getD k []) != zs.getD k 0)
    · rw [wm_miss _ _ _ _ _ _ hx]; omega
    · rw [wm_hit _ _ _ _ _ _ hx]; omega

set_option maxRecDepth 100000 in
set_option maxHeartbeats 4000000 in
theorem spec_wm (a : Option Addr) (rows : List (List Int)) (c : Nat) (a' : Option Addr) (zs : List Int) (c' : Nat) (e : Option Addr) (hs : List Int) (d : Nat) (p : Option Addr) (ws : List Int) (q : Nat) (b : Int) (w : World) (hr : grid.Reads w a rows) (hz : ints.Reads .i64 w a' zs) (hh : ints.Reads .i64 w e hs) (hp : ints.Reads .i64 w p ws) (hn : rows.length ≤ 1048576) (hb : bothB rows zs ws b = true) (hf : heftsB rows hs = true) :
    Calls Try.prog 76 #[.agg #[.slice a rows.length c, .slice a' zs.length c'], .slice e hs.length d, .agg #[.slice p ws.length q, .int .i64 b]] w (RetN (wmTo rows zs hs ws b rows.length) w) := by
  have HR := Lib.hid hr
  have HZ := Lib.hid hz
  have HH := Lib.hid hh
  have HP := Lib.hid hp
  have HLz := Lib.hid (show zs.length = rows.length from ((sampleB_iff _ _).1 ((bothB_iff _ _ _ _).1 hb).1).2.1)
  have HLh := Lib.hid (show hs.length = rows.length from ((heftsB_iff _ _).1 hf).2)
  have HN := Lib.hid ((heftsB_iff _ _).1 hf).1
  have HF := Lib.hid (fit_of hb).1
  have HPl := Lib.hid ((bothB_iff _ _ _ _).1 hb).2.1
  have h16 := (fit_of hb).2
  have hw4 := ((planeB_iff _ _).1 HPl.out).2.1
  clear hr hz hh hp hb hf
  go_enter Try.func76, Try.ntmps76
  obtain ⟨b1, hw1⟩ : ∃ b1 : World, b1 = w.alloc (.cells #[.slice a rows.length c, .slice a' zs.length c'] 38) := ⟨_, rfl⟩
  obtain ⟨b2, hw2⟩ : ∃ b2 : World, b2 = b1.alloc (.cells #[.slice p ws.length q, .int .i64 b] 27) := ⟨_, rfl⟩
  have z1 : b1.heap.size = w.heap.size + 1 := by rw [hw1]; simp
  have z2 : b2.heap.size = w.heap.size + 2 := by rw [hw2]; simp; omega
  have x0_0 := (by rw [hw2]; exact cell_old _ (by rw [hw1]; exact cell_new _ _ _ rfl rfl : b1.cell? ⟨w.heap.size, 0, none⟩ = some (.slice a rows.length c)) : b2.cell? ⟨w.heap.size, 0, none⟩ = some (.slice a rows.length c))
  have x0_1 := (by rw [hw2]; exact cell_old _ (by rw [hw1]; exact cell_new _ _ _ rfl rfl : b1.cell? ⟨w.heap.size, 1, none⟩ = some (.slice a' zs.length c')) : b2.cell? ⟨w.heap.size, 1, none⟩ = some (.slice a' zs.length c'))
  have x1_0 := (by rw [hw2]; exact cell_new _ _ _ z1.symm rfl : b2.cell? ⟨w.heap.size + 1, 0, none⟩ = some (.slice p ws.length q))
  have x1_1 := (by rw [hw2]; exact cell_new _ _ _ z1.symm rfl : b2.cell? ⟨w.heap.size + 1, 1, none⟩ = some (.int .i64 b))
  have HB0 := Lib.hid (show Below w.heap.size w b2 by rw [hw2]; exact (show Below w.heap.size w b1 by rw [hw1]; exact (Below.refl w.heap.size w).alloc (Nat.le_refl _) _).alloc (by omega) _)
  have s2 : w.heap.size + 2 ≤ b2.heap.size := by omega
  clear z1 z2
  go_wp2_with fail
  rw [← hw1, ← hw2]
  clear hw1 hw2
  go_loopw [7, 8] (fun s i wr => ∃ k : Nat, k ≤ rows.length ∧ i = .int .i64 k ∧ s = .int .i64 (wmTo rows zs hs ws b k) ∧ Below b2.heap.size b2 wr) (fun _ i _ => rows.length - (intOf i).toNat)
  case atStart => exact ⟨0, Nat.zero_le _, rfl, rfl, Below.refl _ _⟩
  case round =>
    obtain ⟨k, hk, rfl, rfl, hbel⟩ := hrel
    replace x0_0 := cell_below hbel x0_0 (by omega)
    replace x0_1 := cell_below hbel x0_1 (by omega)
    replace x1_0 := cell_below hbel x1_0 (by omega)
    replace x1_1 := cell_below hbel x1_1 (by omega)
    have hsz := hbel.size
    by_cases hlt : k < rows.length
    · obtain ⟨bl, off, rp, rq, hab, hbl, hc, hpq, hrow⟩ := (HR.out.below HB0.out).at hlt
      subst hab
      replace hc := cell_below hbel hc (by omega)
      obtain ⟨lb, lo, hlb, hll, hlc⟩ := (HZ.out.below HB0.out).at (k := k) (by have := HLz.out; omega)
      subst hlb
      replace hlc := cell_below hbel hlc (by omega)
      obtain ⟨hb9, ho9, hhb, hhl, hhc0⟩ := (HH.out.below HB0.out).at (k := k) (by have := HLh.out; omega)
      subst hhb
      have hFk := HF.out k hlt
      have hwb := wm_bd (rows := rows) (zs := zs) (ws := ws) (b := b) HN.out k (by have := HLh.out; omega)
      have hyb := numsR_at HN.out k (by have := HLh.out; omega)
      have HT := Lib.hid (show ∀ wa : World, (wa.cell? ⟨w.heap.size, 0, none⟩ = some (.slice (some ⟨bl, off, none⟩) rows.length c) ∧ wa.cell? ⟨w.heap.size, 1, none⟩ = some (.slice (some ⟨lb, lo, none⟩) zs.length c') ∧ wa.cell? ⟨w.heap.size + 1, 0, none⟩ = some (.slice p ws.length q) ∧ wa.cell? ⟨w.heap.size + 1, 1, none⟩ = some (.int .i64 b) ∧ wa.cell? ⟨bl, off + k, none⟩ = some (.slice rp (rows.getD k []).length rq) ∧ wa.cell? ⟨lb, lo + k, none⟩ = some (.int .i64 (zs.getD k 0)) ∧ Below b2.heap.size b2 wa) → Calls Try.prog 97 #[.agg #[.slice p ws.length q, .int .i64 b], .slice rp (rows.getD k []).length rq] wa fun e w' => e = .returned (.int .i64 (side ws b (rows.getD k []))) ∧ (w'.cell? ⟨w.heap.size, 0, none⟩ = some (.slice (some ⟨bl, off, none⟩) rows.length c) ∧ w'.cell? ⟨w.heap.size, 1, none⟩ = some (.slice (some ⟨lb, lo, none⟩) zs.length c') ∧ w'.cell? ⟨w.heap.size + 1, 0, none⟩ = some (.slice p ws.length q) ∧ w'.cell? ⟨w.heap.size + 1, 1, none⟩ = some (.int .i64 b) ∧ w'.cell? ⟨bl, off + k, none⟩ = some (.slice rp (rows.getD k []).length rq) ∧ w'.cell? ⟨lb, lo + k, none⟩ = some (.int .i64 (zs.getD k 0)) ∧ Below b2.heap.size b2 w') from fun wa hS => by
        have hz := hS.2.2.2.2.2.2.size
        have hB := HB0.out.trans (hS.2.2.2.2.2.2.mono (by omega))
        refine (spec_side p ws q b rp _ rq wa (HP.out.below hB) (hrow.below hS.2.2.2.2.2.2) (by omega) (by omega) (by omega) hFk.2).mono ?_
        rintro e w' ⟨rfl, hb⟩
        exact ⟨rfl, cell_below hb hS.1 (by omega), cell_below hb hS.2.1 (by omega), cell_below hb hS.2.2.1 (by omega), cell_below hb hS.2.2.2.1 (by omega), cell_below hb hS.2.2.2.2.1 (by omega), cell_below hb hS.2.2.2.2.2.1 (by omega), hS.2.2.2.2.2.2.trans (hb.mono (by omega))⟩)
      have HBl := Lib.hid hbel
      have i1 : (0 : Int) ≤ (k : Int) := by omega
      have i2 : (k : Int) < (rows.length : Int) := by omega
      have i3 : (k : Int) < (zs.length : Int) := by have := HLz.out; omega
      have i4 : (k : Int) < (hs.length : Int) := by have := HLh.out; omega
      clear hbel hrow hpq hFk
      cases hm' : (side ws b (rows.getD k []) != zs.getD k 0)
      · skip
        have HM := Lib.hid (wm_miss rows zs hs ws b k hm')
        have g1 : (side ws b (rows.getD k []) != zs.getD k 0) = false := hm'
        clear hm'
        generalize rows.getD k [] = r at *
        generalize zs.getD k 0 = z at *
        generalize side ws b r = s at *
        generalize hs.getD k 0 = y at *
        generalize wmTo rows zs hs ws b k = m at *
        go_wp2_with fail
        go_region_held3 (fun w' => w'.cell? ⟨w.heap.size, 0, none⟩ = some (.slice (some ⟨bl, off, none⟩) rows.length c) ∧ w'.cell? ⟨w.heap.size, 1, none⟩ = some (.slice (some ⟨lb, lo, none⟩) zs.length c') ∧ w'.cell? ⟨w.heap.size + 1, 0, none⟩ = some (.slice p ws.length q) ∧ w'.cell? ⟨w.heap.size + 1, 1, none⟩ = some (.int .i64 b) ∧ w'.cell? ⟨bl, off + k, none⟩ = some (.slice rp r.length rq) ∧ w'.cell? ⟨lb, lo + k, none⟩ = some (.int .i64 z) ∧ Below b2.heap.size b2 w') (first | assumption | exact ⟨x0_0, x0_1, x1_0, x1_1, hc, hlc, HBl.out⟩ | exact ⟨x0_0, x0_1, x1_0, x1_1, hc, hlc, HBl.out.drew⟩) (first | (go_at_call 97; refine Calls.mono (HT.out _ (by assumption)) ?_; rintro e wq ⟨rfl, hbx⟩))
        obtain ⟨_, _, _, _, _, _, hbq⟩ := hbx
        have hzq := hbq.size
        have hhq := cell_below (hbq.mono (Nat.le_refl _)) hhc0 (by omega)
        have HBq := Lib.hid hbq
        clear hbq
        go_wp2_with fail
        go_roundw
        case rel => exact ⟨k + 1, by omega, by go_num, by rw [HM.out], HBq.out⟩
        case measure => simp [intOf]; omega
      · skip
        have HM := Lib.hid (wm_hit rows zs hs ws b k hm')
        have g1 : (side ws b (rows.getD k []) != zs.getD k 0) = true := hm'
        clear hm'
        generalize rows.getD k [] = r at *
        generalize zs.getD k 0 = z at *
        generalize side ws b r = s at *
        generalize hs.getD k 0 = y at *
        generalize wmTo rows zs hs ws b k = m at *
        go_wp2_with fail
        go_region_held3 (fun w' => w'.cell? ⟨w.heap.size, 0, none⟩ = some (.slice (some ⟨bl, off, none⟩) rows.length c) ∧ w'.cell? ⟨w.heap.size, 1, none⟩ = some (.slice (some ⟨lb, lo, none⟩) zs.length c') ∧ w'.cell? ⟨w.heap.size + 1, 0, none⟩ = some (.slice p ws.length q) ∧ w'.cell? ⟨w.heap.size + 1, 1, none⟩ = some (.int .i64 b) ∧ w'.cell? ⟨bl, off + k, none⟩ = some (.slice rp r.length rq) ∧ w'.cell? ⟨lb, lo + k, none⟩ = some (.int .i64 z) ∧ Below b2.heap.size b2 w') (first | assumption | exact ⟨x0_0, x0_1, x1_0, x1_1, hc, hlc, HBl.out⟩ | exact ⟨x0_0, x0_1, x1_0, x1_1, hc, hlc, HBl.out.drew⟩) (first | (go_at_call 97; refine Calls.mono (HT.out _ (by assumption)) ?_; rintro e wq ⟨rfl, hbx⟩))
        obtain ⟨_, _, _, _, _, _, hbq⟩ := hbx
        have hzq := hbq.size
        have hhq := cell_below (hbq.mono (Nat.le_refl _)) hhc0 (by omega)
        have HBq := Lib.hid hbq
        clear hbq
        go_wp2_with fail
        go_roundw
        case rel => exact ⟨k + 1, by omega, by go_num, by rw [HM.out], HBq.out⟩
        case measure => simp [intOf]; omega
    · obtain rfl : k = rows.length := by omega
      have HBl := Lib.hid (HB0.out.trans (hbel.mono (by omega)))
      clear hbel
      go_wp2_with fail
      go_ret
      exact ⟨rfl, HBl.out⟩
set_option maxRecDepth 100000 in
set_option maxHeartbeats 4000000 in
theorem impl_wm (a : Option Addr) (rows : List (List Int)) (c : Nat) (a' : Option Addr) (zs : List Int) (c' : Nat) (e : Option Addr) (hs : List Int) (d : Nat) (p : Option Addr) (ws : List Int) (q : Nat) (b : Int) (w : World) (hr : grid.Reads w a rows) (hz : ints.Reads .i64 w a' zs) (hh : ints.Reads .i64 w e hs) (hp : ints.Reads .i64 w p ws) (hn : rows.length ≤ 1048576) (hb : bothB rows zs ws b = true) (hf : heftsB rows hs = true) :
    Calls Try.prog 79 #[.agg #[.slice a rows.length c, .slice a' zs.length c'], .slice e hs.length d, .agg #[.slice p ws.length q, .int .i64 b]] w (RetN (wmTo rows zs hs ws b rows.length) w) := by
  have HR := Lib.hid hr
  have HZ := Lib.hid hz
  have HH := Lib.hid hh
  have HP := Lib.hid hp
  have HLz := Lib.hid (show zs.length = rows.length from ((sampleB_iff _ _).1 ((bothB_iff _ _ _ _).1 hb).1).2.1)
  have HLh := Lib.hid (show hs.length = rows.length from ((heftsB_iff _ _).1 hf).2)
  have HN := Lib.hid ((heftsB_iff _ _).1 hf).1
  have HF := Lib.hid (fit_of hb).1
  have HPl := Lib.hid ((bothB_iff _ _ _ _).1 hb).2.1
  have h16 := (fit_of hb).2
  have hw4 := ((planeB_iff _ _).1 HPl.out).2.1
  clear hr hz hh hp hb hf
  go_enter Try.func79, Try.ntmps79
  obtain ⟨b1, hw1⟩ : ∃ b1 : World, b1 = w.alloc (.cells #[.slice a rows.length c, .slice a' zs.length c'] 38) := ⟨_, rfl⟩
  obtain ⟨b2, hw2⟩ : ∃ b2 : World, b2 = b1.alloc (.cells #[.slice p ws.length q, .int .i64 b] 27) := ⟨_, rfl⟩
  have z1 : b1.heap.size = w.heap.size + 1 := by rw [hw1]; simp
  have z2 : b2.heap.size = w.heap.size + 2 := by rw [hw2]; simp; omega
  have x0_0 := (by rw [hw2]; exact cell_old _ (by rw [hw1]; exact cell_new _ _ _ rfl rfl : b1.cell? ⟨w.heap.size, 0, none⟩ = some (.slice a rows.length c)) : b2.cell? ⟨w.heap.size, 0, none⟩ = some (.slice a rows.length c))
  have x0_1 := (by rw [hw2]; exact cell_old _ (by rw [hw1]; exact cell_new _ _ _ rfl rfl : b1.cell? ⟨w.heap.size, 1, none⟩ = some (.slice a' zs.length c')) : b2.cell? ⟨w.heap.size, 1, none⟩ = some (.slice a' zs.length c'))
  have x1_0 := (by rw [hw2]; exact cell_new _ _ _ z1.symm rfl : b2.cell? ⟨w.heap.size + 1, 0, none⟩ = some (.slice p ws.length q))
  have x1_1 := (by rw [hw2]; exact cell_new _ _ _ z1.symm rfl : b2.cell? ⟨w.heap.size + 1, 1, none⟩ = some (.int .i64 b))
  have HB0 := Lib.hid (show Below w.heap.size w b2 by rw [hw2]; exact (show Below w.heap.size w b1 by rw [hw1]; exact (Below.refl w.heap.size w).alloc (Nat.le_refl _) _).alloc (by omega) _)
  have s2 : w.heap.size + 2 ≤ b2.heap.size := by omega
  clear z1 z2
  go_wp2_with fail
  rw [← hw1, ← hw2]
  clear hw1 hw2
  go_loopw [7, 13] (fun s i wr => ∃ k : Nat, k ≤ rows.length ∧ i = .int .i64 k ∧ s = .int .i64 (wmTo rows zs hs ws b k) ∧ Below b2.heap.size b2 wr) (fun _ i _ => rows.length - (intOf i).toNat)
  case atStart => exact ⟨0, Nat.zero_le _, rfl, rfl, Below.refl _ _⟩
  case round =>
    obtain ⟨k, hk, rfl, rfl, hbel⟩ := hrel
    replace x0_0 := cell_below hbel x0_0 (by omega)
    replace x0_1 := cell_below hbel x0_1 (by omega)
    replace x1_0 := cell_below hbel x1_0 (by omega)
    replace x1_1 := cell_below hbel x1_1 (by omega)
    have hsz := hbel.size
    by_cases hlt : k < rows.length
    · obtain ⟨bl, off, rp, rq, hab, hbl, hc, hpq, hrow⟩ := (HR.out.below HB0.out).at hlt
      subst hab
      replace hc := cell_below hbel hc (by omega)
      obtain ⟨lb, lo, hlb, hll, hlc⟩ := (HZ.out.below HB0.out).at (k := k) (by have := HLz.out; omega)
      subst hlb
      replace hlc := cell_below hbel hlc (by omega)
      obtain ⟨hb9, ho9, hhb, hhl, hhc0⟩ := (HH.out.below HB0.out).at (k := k) (by have := HLh.out; omega)
      subst hhb
      have hFk := HF.out k hlt
      have hwb := wm_bd (rows := rows) (zs := zs) (ws := ws) (b := b) HN.out k (by have := HLh.out; omega)
      have hyb := numsR_at HN.out k (by have := HLh.out; omega)
      have HT := Lib.hid (show ∀ wa : World, (wa.cell? ⟨w.heap.size, 0, none⟩ = some (.slice (some ⟨bl, off, none⟩) rows.length c) ∧ wa.cell? ⟨w.heap.size, 1, none⟩ = some (.slice (some ⟨lb, lo, none⟩) zs.length c') ∧ wa.cell? ⟨w.heap.size + 1, 0, none⟩ = some (.slice p ws.length q) ∧ wa.cell? ⟨w.heap.size + 1, 1, none⟩ = some (.int .i64 b) ∧ wa.cell? ⟨bl, off + k, none⟩ = some (.slice rp (rows.getD k []).length rq) ∧ wa.cell? ⟨lb, lo + k, none⟩ = some (.int .i64 (zs.getD k 0)) ∧ Below b2.heap.size b2 wa) → Calls Try.prog 115 #[.agg #[.slice p ws.length q, .int .i64 b], .slice rp (rows.getD k []).length rq] wa fun e w' => e = .returned (.int .i64 (side ws b (rows.getD k []))) ∧ (w'.cell? ⟨w.heap.size, 0, none⟩ = some (.slice (some ⟨bl, off, none⟩) rows.length c) ∧ w'.cell? ⟨w.heap.size, 1, none⟩ = some (.slice (some ⟨lb, lo, none⟩) zs.length c') ∧ w'.cell? ⟨w.heap.size + 1, 0, none⟩ = some (.slice p ws.length q) ∧ w'.cell? ⟨w.heap.size + 1, 1, none⟩ = some (.int .i64 b) ∧ w'.cell? ⟨bl, off + k, none⟩ = some (.slice rp (rows.getD k []).length rq) ∧ w'.cell? ⟨lb, lo + k, none⟩ = some (.int .i64 (zs.getD k 0)) ∧ Below b2.heap.size b2 w') from fun wa hS => by
        have hz := hS.2.2.2.2.2.2.size
        have hB := HB0.out.trans (hS.2.2.2.2.2.2.mono (by omega))
        refine (impl_side p ws q b rp _ rq wa (HP.out.below hB) (hrow.below hS.2.2.2.2.2.2) (by omega) (by omega) (by omega) hFk.2 (mid_plane HPl.out)).mono ?_
        rintro e w' ⟨rfl, hb⟩
        exact ⟨rfl, cell_below hb hS.1 (by omega), cell_below hb hS.2.1 (by omega), cell_below hb hS.2.2.1 (by omega), cell_below hb hS.2.2.2.1 (by omega), cell_below hb hS.2.2.2.2.1 (by omega), cell_below hb hS.2.2.2.2.2.1 (by omega), hS.2.2.2.2.2.2.trans (hb.mono (by omega))⟩)
      have HBl := Lib.hid hbel
      have i1 : (0 : Int) ≤ (k : Int) := by omega
      have i2 : (k : Int) < (rows.length : Int) := by omega
      have i3 : (k : Int) < (zs.length : Int) := by have := HLz.out; omega
      have i4 : (k : Int) < (hs.length : Int) := by have := HLh.out; omega
      clear hbel hrow hpq hFk
      cases hm' : (side ws b (rows.getD k []) != zs.getD k 0)
      · skip
        have HM := Lib.hid (wm_miss rows zs hs ws b k hm')
        have g1 : (side ws b (rows.getD k []) != zs.getD k 0) = false := hm'
        clear hm'
        generalize rows.getD k [] = r at *
        generalize zs.getD k 0 = z at *
        generalize side ws b r = s at *
        generalize hs.getD k 0 = y at *
        generalize wmTo rows zs hs ws b k = m at *
        go_wp2_with fail
        go_region_held3 (fun w' => w'.cell? ⟨w.heap.size, 0, none⟩ = some (.slice (some ⟨bl, off, none⟩) rows.length c) ∧ w'.cell? ⟨w.heap.size, 1, none⟩ = some (.slice (some ⟨lb, lo, none⟩) zs.length c') ∧ w'.cell? ⟨w.heap.size + 1, 0, none⟩ = some (.slice p ws.length q) ∧ w'.cell? ⟨w.heap.size + 1, 1, none⟩ = some (.int .i64 b) ∧ w'.cell? ⟨bl, off + k, none⟩ = some (.slice rp r.length rq) ∧ w'.cell? ⟨lb, lo + k, none⟩ = some (.int .i64 z) ∧ Below b2.heap.size b2 w') (first | assumption | exact ⟨x0_0, x0_1, x1_0, x1_1, hc, hlc, HBl.out⟩ | exact ⟨x0_0, x0_1, x1_0, x1_1, hc, hlc, HBl.out.drew⟩) (first | (go_at_call 115; refine Calls.mono (HT.out _ (by assumption)) ?_; rintro e wq ⟨rfl, hbx⟩))
        obtain ⟨_, _, _, _, _, _, hbq⟩ := hbx
        have hzq := hbq.size
        have hhq := cell_below (hbq.mono (Nat.le_refl _)) hhc0 (by omega)
        have HBq := Lib.hid hbq
        clear hbq
        go_wp2_with fail
        go_roundw
        case rel => exact ⟨k + 1, by omega, by go_num, by rw [HM.out], HBq.out⟩
        case measure => simp [intOf]; omega
      · skip
        have HM := Lib.hid (wm_hit rows zs hs ws b k hm')
        have g1 : (side ws b (rows.getD k []) != zs.getD k 0) = true := hm'
        clear hm'
        generalize rows.getD k [] = r at *
        generalize zs.getD k 0 = z at *
        generalize side ws b r = s at *
        generalize hs.getD k 0 = y at *
        generalize wmTo rows zs hs ws b k = m at *
        go_wp2_with fail
        go_region_held3 (fun w' => w'.cell? ⟨w.heap.size, 0, none⟩ = some (.slice (some ⟨bl, off, none⟩) rows.length c) ∧ w'.cell? ⟨w.heap.size, 1, none⟩ = some (.slice (some ⟨lb, lo, none⟩) zs.length c') ∧ w'.cell? ⟨w.heap.size + 1, 0, none⟩ = some (.slice p ws.length q) ∧ w'.cell? ⟨w.heap.size + 1, 1, none⟩ = some (.int .i64 b) ∧ w'.cell? ⟨bl, off + k, none⟩ = some (.slice rp r.length rq) ∧ w'.cell? ⟨lb, lo + k, none⟩ = some (.int .i64 z) ∧ Below b2.heap.size b2 w') (first | assumption | exact ⟨x0_0, x0_1, x1_0, x1_1, hc, hlc, HBl.out⟩ | exact ⟨x0_0, x0_1, x1_0, x1_1, hc, hlc, HBl.out.drew⟩) (first | (go_at_call 115; refine Calls.mono (HT.out _ (by assumption)) ?_; rintro e wq ⟨rfl, hbx⟩))
        obtain ⟨_, _, _, _, _, _, hbq⟩ := hbx
        have hzq := hbq.size
        have hhq := cell_below (hbq.mono (Nat.le_refl _)) hhc0 (by omega)
        have HBq := Lib.hid hbq
        clear hbq
        go_wp2_with fail
        go_roundw
        case rel => exact ⟨k + 1, by omega, by go_num, by rw [HM.out], HBq.out⟩
        case measure => simp [intOf]; omega
    · obtain rfl : k = rows.length := by omega
      have HBl := Lib.hid (HB0.out.trans (hbel.mono (by omega)))
      clear hbel
      go_wp2_with fail
      go_ret
      exact ⟨rfl, HBl.out⟩
set_option maxRecDepth 100000 in
set_option maxHeartbeats 4000000 in
theorem spec_no1 (a : Option Addr) (rows : List (List Int)) (c : Nat) (a' : Option Addr) (zs : List Int) (c' : Nat) (e : Option Addr) (hs : List Int) (d : Nat) (p : Option Addr) (ws : List Int) (q : Nat) (b : Int) (w : World) (hr : grid.Reads w a rows) (hz : ints.Reads .i64 w a' zs) (hh : ints.Reads .i64 w e hs) (hp : ints.Reads .i64 w p ws) (hn : rows.length ≤ 1048576) (hk : zs.length ≤ 1048576) (hnh : hs.length ≤ 1048576) (hw : ws.length ≤ 1048576) (hm : ∀ r ∈ rows, r.length ≤ 1048576) (hb : bothB rows zs ws b = false) :
    Calls Try.prog 30 #[.agg #[.slice a rows.length c, .slice a' zs.length c'], .slice e hs.length d, .agg #[.slice p ws.length q, .int .i64 b]] w (RetNB 0 false w) := by
  have HR := Lib.hid hr
  have HZ := Lib.hid hz
  have HH := Lib.hid hh
  have HP := Lib.hid hp
  have HM := Lib.hid hm
  have HBo := Lib.hid hb
  clear hr hz hh hp hm hb
  go_enter Try.func30, Try.ntmps30
  obtain ⟨b1, hw1⟩ : ∃ b1 : World, b1 = w.alloc (.cells #[.slice a rows.length c, .slice a' zs.length c'] 38) := ⟨_, rfl⟩
  obtain ⟨b2, hw2⟩ : ∃ b2 : World, b2 = b1.alloc (.cells #[.slice p ws.length q, .int .i64 b] 27) := ⟨_, rfl⟩
  have z1 : b1.heap.size = w.heap.size + 1 := by rw [hw1]; simp
  have z2 : b2.heap.size = w.heap.size + 2 := by rw [hw2]; simp; omega
  have x0_0 := (by rw [hw2]; exact cell_old _ (by rw [hw1]; exact cell_new _ _ _ rfl rfl : b1.cell? ⟨w.heap.size, 0, none⟩ = some (.slice a rows.length c)) : b2.cell? ⟨w.heap.size, 0, none⟩ = some (.slice a rows.length c))
  have x0_1 := (by rw [hw2]; exact cell_old _ (by rw [hw1]; exact cell_new _ _ _ rfl rfl : b1.cell? ⟨w.heap.size, 1, none⟩ = some (.slice a' zs.length c')) : b2.cell? ⟨w.heap.size, 1, none⟩ = some (.slice a' zs.length c'))
  have x1_0 := (by rw [hw2]; exact cell_new _ _ _ z1.symm rfl : b2.cell? ⟨w.heap.size + 1, 0, none⟩ = some (.slice p ws.length q))
  have x1_1 := (by rw [hw2]; exact cell_new _ _ _ z1.symm rfl : b2.cell? ⟨w.heap.size + 1, 1, none⟩ = some (.int .i64 b))
  have HB0 := Lib.hid (show Below w.heap.size w b2 by rw [hw2]; exact (show Below w.heap.size w b1 by rw [hw1]; exact (Below.refl w.heap.size w).alloc (Nat.le_refl _) _).alloc (by omega) _)
  have s2 : w.heap.size + 2 ≤ b2.heap.size := by omega
  clear z1 z2
  go_wp2_with fail
  rw [← hw1, ← hw2]
  clear hw1 hw2
  refine (spec_both a rows c a' zs c' p ws q b _ (HR.out.below HB0.out) (HZ.out.below HB0.out) (HP.out.below HB0.out) hn hk HM.out hw false HBo).mono ?_
  rintro e w1 ⟨rfl, hb⟩
  have s1 : b2.heap.size ≤ w1.heap.size := hb.size
  have n1_0 : w.heap.size < w1.heap.size := by omega
  have n1_1 : w.heap.size + 1 < w1.heap.size := by omega
  replace x0_0 := cell_below hb x0_0 (by omega)
  replace x0_1 := cell_below hb x0_1 (by omega)
  replace x1_0 := cell_below hb x1_0 (by omega)
  replace x1_1 := cell_below hb x1_1 (by omega)
  have HB1 := Lib.hid (HB0.out.trans (hb.mono (by omega)))
  clear hb
  go_wp2_with fail
  go_ret2
  exact ⟨rfl, HB1.out⟩
set_option maxRecDepth 100000 in
set_option maxHeartbeats 4000000 in
theorem spec_no2 (a : Option Addr) (rows : List (List Int)) (c : Nat) (a' : Option Addr) (zs : List Int) (c' : Nat) (e : Option Addr) (hs : List Int) (d : Nat) (p : Option Addr) (ws : List Int) (q : Nat) (b : Int) (w : World) (hr : grid.Reads w a rows) (hz : ints.Reads .i64 w a' zs) (hh : ints.Reads .i64 w e hs) (hp : ints.Reads .i64 w p ws) (hn : rows.length ≤ 1048576) (hk : zs.length ≤ 1048576) (hnh : hs.length ≤ 1048576) (hw : ws.length ≤ 1048576) (hm : ∀ r ∈ rows, r.length ≤ 1048576) (hb : bothB rows zs ws b = true) (hf : heftsB rows hs = false) :
    Calls Try.prog 30 #[.agg #[.slice a rows.length c, .slice a' zs.length c'], .slice e hs.length d, .agg #[.slice p ws.length q, .int .i64 b]] w (RetNB 0 false w) := by
  have HR := Lib.hid hr
  have HZ := Lib.hid hz
  have HH := Lib.hid hh
  have HP := Lib.hid hp
  have HM := Lib.hid hm
  have HBo := Lib.hid hb
  have HHe := Lib.hid hf
  clear hr hz hh hp hm hb hf
  go_enter Try.func30, Try.ntmps30
  obtain ⟨b1, hw1⟩ : ∃ b1 : World, b1 = w.alloc (.cells #[.slice a rows.length c, .slice a' zs.length c'] 38) := ⟨_, rfl⟩
  obtain ⟨b2, hw2⟩ : ∃ b2 : World, b2 = b1.alloc (.cells #[.slice p ws.length q, .int .i64 b] 27) := ⟨_, rfl⟩
  have z1 : b1.heap.size = w.heap.size + 1 := by rw [hw1]; simp
  have z2 : b2.heap.size = w.heap.size + 2 := by rw [hw2]; simp; omega
  have x0_0 := (by rw [hw2]; exact cell_old _ (by rw [hw1]; exact cell_new _ _ _ rfl rfl : b1.cell? ⟨w.heap.size, 0, none⟩ = some (.slice a rows.length c)) : b2.cell? ⟨w.heap.size, 0, none⟩ = some (.slice a rows.length c))
  have x0_1 := (by rw [hw2]; exact cell_old _ (by rw [hw1]; exact cell_new _ _ _ rfl rfl : b1.cell? ⟨w.heap.size, 1, none⟩ = some (.slice a' zs.length c')) : b2.cell? ⟨w.heap.size, 1, none⟩ = some (.slice a' zs.length c'))
  have x1_0 := (by rw [hw2]; exact cell_new _ _ _ z1.symm rfl : b2.cell? ⟨w.heap.size + 1, 0, none⟩ = some (.slice p ws.length q))
  have x1_1 := (by rw [hw2]; exact cell_new _ _ _ z1.symm rfl : b2.cell? ⟨w.heap.size + 1, 1, none⟩ = some (.int .i64 b))
  have HB0 := Lib.hid (show Below w.heap.size w b2 by rw [hw2]; exact (show Below w.heap.size w b1 by rw [hw1]; exact (Below.refl w.heap.size w).alloc (Nat.le_refl _) _).alloc (by omega) _)
  have s2 : w.heap.size + 2 ≤ b2.heap.size := by omega
  clear z1 z2
  go_wp2_with fail
  rw [← hw1, ← hw2]
  clear hw1 hw2
  refine (spec_both a rows c a' zs c' p ws q b _ (HR.out.below HB0.out) (HZ.out.below HB0.out) (HP.out.below HB0.out) hn hk HM.out hw true HBo).mono ?_
  rintro e w1 ⟨rfl, hb⟩
  have s1 : b2.heap.size ≤ w1.heap.size := hb.size
  have n1_0 : w.heap.size < w1.heap.size := by omega
  have n1_1 : w.heap.size + 1 < w1.heap.size := by omega
  replace x0_0 := cell_below hb x0_0 (by omega)
  replace x0_1 := cell_below hb x0_1 (by omega)
  replace x1_0 := cell_below hb x1_0 (by omega)
  replace x1_1 := cell_below hb x1_1 (by omega)
  have HB1 := Lib.hid (HB0.out.trans (hb.mono (by omega)))
  clear hb
  go_wp2_with fail
  refine (spec_hefts a rows c a' zs c' e hs d _ (HH.out.below HB1.out) hnh hn false HHe).mono ?_
  rintro e w2 ⟨rfl, hb⟩
  have s2 : w1.heap.size ≤ w2.heap.size := hb.size
  have n2_0 : w.heap.size < w2.heap.size := by omega
  have n2_1 : w.heap.size + 1 < w2.heap.size := by omega
  replace x0_0 := cell_below hb x0_0 (by omega)
  replace x0_1 := cell_below hb x0_1 (by omega)
  replace x1_0 := cell_below hb x1_0 (by omega)
  replace x1_1 := cell_below hb x1_1 (by omega)
  have HB2 := Lib.hid (HB1.out.trans (hb.mono (by omega)))
  clear hb
  go_wp2_with fail
  go_ret2
  exact ⟨rfl, HB2.out⟩
set_option maxRecDepth 100000 in
set_option maxHeartbeats 4000000 in
theorem spec_yes (a : Option Addr) (rows : List (List Int)) (c : Nat) (a' : Option Addr) (zs : List Int) (c' : Nat) (e : Option Addr) (hs : List Int) (d : Nat) (p : Option Addr) (ws : List Int) (q : Nat) (b : Int) (w : World) (hr : grid.Reads w a rows) (hz : ints.Reads .i64 w a' zs) (hh : ints.Reads .i64 w e hs) (hp : ints.Reads .i64 w p ws) (hn : rows.length ≤ 1048576) (hk : zs.length ≤ 1048576) (hnh : hs.length ≤ 1048576) (hw : ws.length ≤ 1048576) (hm : ∀ r ∈ rows, r.length ≤ 1048576) (hb : bothB rows zs ws b = true) (hf : heftsB rows hs = true) :
    Calls Try.prog 30 #[.agg #[.slice a rows.length c, .slice a' zs.length c'], .slice e hs.length d, .agg #[.slice p ws.length q, .int .i64 b]] w (RetNB (wmTo rows zs hs ws b rows.length) true w) := by
  have HR := Lib.hid hr
  have HZ := Lib.hid hz
  have HH := Lib.hid hh
  have HP := Lib.hid hp
  have HM := Lib.hid hm
  have HBo := Lib.hid hb
  have HHe := Lib.hid hf
  clear hr hz hh hp hm hb hf
  go_enter Try.func30, Try.ntmps30
  obtain ⟨b1, hw1⟩ : ∃ b1 : World, b1 = w.alloc (.cells #[.slice a rows.length c, .slice a' zs.length c'] 38) := ⟨_, rfl⟩
  obtain ⟨b2, hw2⟩ : ∃ b2 : World, b2 = b1.alloc (.cells #[.slice p ws.length q, .int .i64 b] 27) := ⟨_, rfl⟩
  have z1 : b1.heap.size = w.heap.size + 1 := by rw [hw1]; simp
  have z2 : b2.heap.size = w.heap.size + 2 := by rw [hw2]; simp; omega
  have x0_0 := (by rw [hw2]; exact cell_old _ (by rw [hw1]; exact cell_new _ _ _ rfl rfl : b1.cell? ⟨w.heap.size, 0, none⟩ = some (.slice a rows.length c)) : b2.cell? ⟨w.heap.size, 0, none⟩ = some (.slice a rows.length c))
  have x0_1 := (by rw [hw2]; exact cell_old _ (by rw [hw1]; exact cell_new _ _ _ rfl rfl : b1.cell? ⟨w.heap.size, 1, none⟩ = some (.slice a' zs.length c')) : b2.cell? ⟨w.heap.size, 1, none⟩ = some (.slice a' zs.length c'))
  have x1_0 := (by rw [hw2]; exact cell_new _ _ _ z1.symm rfl : b2.cell? ⟨w.heap.size + 1, 0, none⟩ = some (.slice p ws.length q))
  have x1_1 := (by rw [hw2]; exact cell_new _ _ _ z1.symm rfl : b2.cell? ⟨w.heap.size + 1, 1, none⟩ = some (.int .i64 b))
  have HB0 := Lib.hid (show Below w.heap.size w b2 by rw [hw2]; exact (show Below w.heap.size w b1 by rw [hw1]; exact (Below.refl w.heap.size w).alloc (Nat.le_refl _) _).alloc (by omega) _)
  have s2 : w.heap.size + 2 ≤ b2.heap.size := by omega
  clear z1 z2
  go_wp2_with fail
  rw [← hw1, ← hw2]
  clear hw1 hw2
  refine (spec_both a rows c a' zs c' p ws q b _ (HR.out.below HB0.out) (HZ.out.below HB0.out) (HP.out.below HB0.out) hn hk HM.out hw true HBo).mono ?_
  rintro e w1 ⟨rfl, hb⟩
  have s1 : b2.heap.size ≤ w1.heap.size := hb.size
  have n1_0 : w.heap.size < w1.heap.size := by omega
  have n1_1 : w.heap.size + 1 < w1.heap.size := by omega
  replace x0_0 := cell_below hb x0_0 (by omega)
  replace x0_1 := cell_below hb x0_1 (by omega)
  replace x1_0 := cell_below hb x1_0 (by omega)
  replace x1_1 := cell_below hb x1_1 (by omega)
  have HB1 := Lib.hid (HB0.out.trans (hb.mono (by omega)))
  clear hb
  go_wp2_with fail
  refine (spec_hefts a rows c a' zs c' e hs d _ (HH.out.below HB1.out) hnh hn true HHe).mono ?_
  rintro e w2 ⟨rfl, hb⟩
  have s2 : w1.heap.size ≤ w2.heap.size := hb.size
  have n2_0 : w.heap.size < w2.heap.size := by omega
  have n2_1 : w.heap.size + 1 < w2.heap.size := by omega
  replace x0_0 := cell_below hb x0_0 (by omega)
  replace x0_1 := cell_below hb x0_1 (by omega)
  replace x1_0 := cell_below hb x1_0 (by omega)
  replace x1_1 := cell_below hb x1_1 (by omega)
  have HB2 := Lib.hid (HB1.out.trans (hb.mono (by omega)))
  clear hb
  go_wp2_with fail
  refine (spec_wm a rows c a' zs c' e hs d p ws q b _ (HR.out.below HB2.out) (HZ.out.below HB2.out) (HH.out.below HB2.out) (HP.out.below HB2.out) hn HBo.out HHe.out).mono ?_
  rintro e w3 ⟨rfl, hb⟩
  have s3 : w2.heap.size ≤ w3.heap.size := hb.size
  have n3_0 : w.heap.size < w3.heap.size := by omega
  have n3_1 : w.heap.size + 1 < w3.heap.size := by omega
  replace x0_0 := cell_below hb x0_0 (by omega)
  replace x0_1 := cell_below hb x0_1 (by omega)
  replace x1_0 := cell_below hb x1_0 (by omega)
  replace x1_1 := cell_below hb x1_1 (by omega)
  have HB3 := Lib.hid (HB2.out.trans (hb.mono (by omega)))
  clear hb
  go_wp2_with fail
  go_ret2
  exact ⟨rfl, HB3.out⟩
set_option maxRecDepth 100000 in
set_option maxHeartbeats 4000000 in
theorem impl_no1 (a : Option Addr) (rows : List (List Int)) (c : Nat) (a' : Option Addr) (zs : List Int) (c' : Nat) (e : Option Addr) (hs : List Int) (d : Nat) (p : Option Addr) (ws : List Int) (q : Nat) (b : Int) (w : World) (hr : grid.Reads w a rows) (hz : ints.Reads .i64 w a' zs) (hh : ints.Reads .i64 w e hs) (hp : ints.Reads .i64 w p ws) (hn : rows.length ≤ 1048576) (hk : zs.length ≤ 1048576) (hnh : hs.length ≤ 1048576) (hw : ws.length ≤ 1048576) (hm : ∀ r ∈ rows, r.length ≤ 1048576) (hb : bothB rows zs ws b = false) :
    Calls Try.prog 32 #[.agg #[.slice a rows.length c, .slice a' zs.length c'], .slice e hs.length d, .agg #[.slice p ws.length q, .int .i64 b]] w (RetNB 0 false w) := by
  have HR := Lib.hid hr
  have HZ := Lib.hid hz
  have HH := Lib.hid hh
  have HP := Lib.hid hp
  have HM := Lib.hid hm
  have HBo := Lib.hid hb
  clear hr hz hh hp hm hb
  go_enter Try.func32, Try.ntmps32
  obtain ⟨b1, hw1⟩ : ∃ b1 : World, b1 = w.alloc (.cells #[.slice a rows.length c, .slice a' zs.length c'] 38) := ⟨_, rfl⟩
  obtain ⟨b2, hw2⟩ : ∃ b2 : World, b2 = b1.alloc (.cells #[.slice p ws.length q, .int .i64 b] 27) := ⟨_, rfl⟩
  have z1 : b1.heap.size = w.heap.size + 1 := by rw [hw1]; simp
  have z2 : b2.heap.size = w.heap.size + 2 := by rw [hw2]; simp; omega
  have x0_0 := (by rw [hw2]; exact cell_old _ (by rw [hw1]; exact cell_new _ _ _ rfl rfl : b1.cell? ⟨w.heap.size, 0, none⟩ = some (.slice a rows.length c)) : b2.cell? ⟨w.heap.size, 0, none⟩ = some (.slice a rows.length c))
  have x0_1 := (by rw [hw2]; exact cell_old _ (by rw [hw1]; exact cell_new _ _ _ rfl rfl : b1.cell? ⟨w.heap.size, 1, none⟩ = some (.slice a' zs.length c')) : b2.cell? ⟨w.heap.size, 1, none⟩ = some (.slice a' zs.length c'))
  have x1_0 := (by rw [hw2]; exact cell_new _ _ _ z1.symm rfl : b2.cell? ⟨w.heap.size + 1, 0, none⟩ = some (.slice p ws.length q))
  have x1_1 := (by rw [hw2]; exact cell_new _ _ _ z1.symm rfl : b2.cell? ⟨w.heap.size + 1, 1, none⟩ = some (.int .i64 b))
  have HB0 := Lib.hid (show Below w.heap.size w b2 by rw [hw2]; exact (show Below w.heap.size w b1 by rw [hw1]; exact (Below.refl w.heap.size w).alloc (Nat.le_refl _) _).alloc (by omega) _)
  have s2 : w.heap.size + 2 ≤ b2.heap.size := by omega
  clear z1 z2
  go_wp2_with fail
  rw [← hw1, ← hw2]
  clear hw1 hw2
  refine (impl_suits a rows c a' zs c' p ws q b _ (HR.out.below HB0.out) (HZ.out.below HB0.out) (HP.out.below HB0.out) hn hk HM.out hw false HBo).mono ?_
  rintro e w1 ⟨rfl, hb⟩
  have s1 : b2.heap.size ≤ w1.heap.size := hb.size
  have n1_0 : w.heap.size < w1.heap.size := by omega
  have n1_1 : w.heap.size + 1 < w1.heap.size := by omega
  replace x0_0 := cell_below hb x0_0 (by omega)
  replace x0_1 := cell_below hb x0_1 (by omega)
  replace x1_0 := cell_below hb x1_0 (by omega)
  replace x1_1 := cell_below hb x1_1 (by omega)
  have HB1 := Lib.hid (HB0.out.trans (hb.mono (by omega)))
  clear hb
  go_wp2_with fail
  go_ret2
  exact ⟨rfl, HB1.out⟩
set_option maxRecDepth 100000 in
set_option maxHeartbeats 4000000 in
theorem impl_no2 (a : Option Addr) (rows : List (List Int)) (c : Nat) (a' : Option Addr) (zs : List Int) (c' : Nat) (e : Option Addr) (hs : List Int) (d : Nat) (p : Option Addr) (ws : List Int) (q : Nat) (b : Int) (w : World) (hr : grid.Reads w a rows) (hz : ints.Reads .i64 w a' zs) (hh : ints.Reads .i64 w e hs) (hp : ints.Reads .i64 w p ws) (hn : rows.length ≤ 1048576) (hk : zs.length ≤ 1048576) (hnh : hs.length ≤ 1048576) (hw : ws.length ≤ 1048576) (hm : ∀ r ∈ rows, r.length ≤ 1048576) (hb : bothB rows zs ws b = true) (hf : heftsB rows hs = false) :
    Calls Try.prog 32 #[.agg #[.slice a rows.length c, .slice a' zs.length c'], .slice e hs.length d, .agg #[.slice p ws.length q, .int .i64 b]] w (RetNB 0 false w) := by
  have HR := Lib.hid hr
  have HZ := Lib.hid hz
  have HH := Lib.hid hh
  have HP := Lib.hid hp
  have HM := Lib.hid hm
  have HBo := Lib.hid hb
  have HHe := Lib.hid hf
  clear hr hz hh hp hm hb hf
  go_enter Try.func32, Try.ntmps32
  obtain ⟨b1, hw1⟩ : ∃ b1 : World, b1 = w.alloc (.cells #[.slice a rows.length c, .slice a' zs.length c'] 38) := ⟨_, rfl⟩
  obtain ⟨b2, hw2⟩ : ∃ b2 : World, b2 = b1.alloc (.cells #[.slice p ws.length q, .int .i64 b] 27) := ⟨_, rfl⟩
  have z1 : b1.heap.size = w.heap.size + 1 := by rw [hw1]; simp
  have z2 : b2.heap.size = w.heap.size + 2 := by rw [hw2]; simp; omega
  have x0_0 := (by rw [hw2]; exact cell_old _ (by rw [hw1]; exact cell_new _ _ _ rfl rfl : b1.cell? ⟨w.heap.size, 0, none⟩ = some (.slice a rows.length c)) : b2.cell? ⟨w.heap.size, 0, none⟩ = some (.slice a rows.length c))
  have x0_1 := (by rw [hw2]; exact cell_old _ (by rw [hw1]; exact cell_new _ _ _ rfl rfl : b1.cell? ⟨w.heap.size, 1, none⟩ = some (.slice a' zs.length c')) : b2.cell? ⟨w.heap.size, 1, none⟩ = some (.slice a' zs.length c'))
  have x1_0 := (by rw [hw2]; exact cell_new _ _ _ z1.symm rfl : b2.cell? ⟨w.heap.size + 1, 0, none⟩ = some (.slice p ws.length q))
  have x1_1 := (by rw [hw2]; exact cell_new _ _ _ z1.symm rfl : b2.cell? ⟨w.heap.size + 1, 1, none⟩ = some (.int .i64 b))
  have HB0 := Lib.hid (show Below w.heap.size w b2 by rw [hw2]; exact (show Below w.heap.size w b1 by rw [hw1]; exact (Below.refl w.heap.size w).alloc (Nat.le_refl _) _).alloc (by omega) _)
  have s2 : w.heap.size + 2 ≤ b2.heap.size := by omega
  clear z1 z2
  go_wp2_with fail
  rw [← hw1, ← hw2]
  clear hw1 hw2
  refine (impl_suits a rows c a' zs c' p ws q b _ (HR.out.below HB0.out) (HZ.out.below HB0.out) (HP.out.below HB0.out) hn hk HM.out hw true HBo).mono ?_
  rintro e w1 ⟨rfl, hb⟩
  have s1 : b2.heap.size ≤ w1.heap.size := hb.size
  have n1_0 : w.heap.size < w1.heap.size := by omega
  have n1_1 : w.heap.size + 1 < w1.heap.size := by omega
  replace x0_0 := cell_below hb x0_0 (by omega)
  replace x0_1 := cell_below hb x0_1 (by omega)
  replace x1_0 := cell_below hb x1_0 (by omega)
  replace x1_1 := cell_below hb x1_1 (by omega)
  have HB1 := Lib.hid (HB0.out.trans (hb.mono (by omega)))
  clear hb
  go_wp2_with fail
  refine (impl_hefts a rows c a' zs c' e hs d _ (HH.out.below HB1.out) hnh hn false HHe).mono ?_
  rintro e w2 ⟨rfl, hb⟩
  have s2 : w1.heap.size ≤ w2.heap.size := hb.size
  have n2_0 : w.heap.size < w2.heap.size := by omega
  have n2_1 : w.heap.size + 1 < w2.heap.size := by omega
  replace x0_0 := cell_below hb x0_0 (by omega)
  replace x0_1 := cell_below hb x0_1 (by omega)
  replace x1_0 := cell_below hb x1_0 (by omega)
  replace x1_1 := cell_below hb x1_1 (by omega)
  have HB2 := Lib.hid (HB1.out.trans (hb.mono (by omega)))
  clear hb
  go_wp2_with fail
  go_ret2
  exact ⟨rfl, HB2.out⟩
set_option maxRecDepth 100000 in
set_option maxHeartbeats 4000000 in
theorem impl_yes (a : Option Addr) (rows : List (List Int)) (c : Nat) (a' : Option Addr) (zs : List Int) (c' : Nat) (e : Option Addr) (hs : List Int) (d : Nat) (p : Option Addr) (ws : List Int) (q : Nat) (b : Int) (w : World) (hr : grid.Reads w a rows) (hz : ints.Reads .i64 w a' zs) (hh : ints.Reads .i64 w e hs) (hp : ints.Reads .i64 w p ws) (hn : rows.length ≤ 1048576) (hk : zs.length ≤ 1048576) (hnh : hs.length ≤ 1048576) (hw : ws.length ≤ 1048576) (hm : ∀ r ∈ rows, r.length ≤ 1048576) (hb : bothB rows zs ws b = true) (hf : heftsB rows hs = true) :
    Calls Try.prog 32 #[.agg #[.slice a rows.length c, .slice a' zs.length c'], .slice e hs.length d, .agg #[.slice p ws.length q, .int .i64 b]] w (RetNB (wmTo rows zs hs ws b rows.length) true w) := by
  have HR := Lib.hid hr
  have HZ := Lib.hid hz
  have HH := Lib.hid hh
  have HP := Lib.hid hp
  have HM := Lib.hid hm
  have HBo := Lib.hid hb
  have HHe := Lib.hid hf
  clear hr hz hh hp hm hb hf
  go_enter Try.func32, Try.ntmps32
  obtain ⟨b1, hw1⟩ : ∃ b1 : World, b1 = w.alloc (.cells #[.slice a rows.length c, .slice a' zs.length c'] 38) := ⟨_, rfl⟩
  obtain ⟨b2, hw2⟩ : ∃ b2 : World, b2 = b1.alloc (.cells #[.slice p ws.length q, .int .i64 b] 27) := ⟨_, rfl⟩
  have z1 : b1.heap.size = w.heap.size + 1 := by rw [hw1]; simp
  have z2 : b2.heap.size = w.heap.size + 2 := by rw [hw2]; simp; omega
  have x0_0 := (by rw [hw2]; exact cell_old _ (by rw [hw1]; exact cell_new _ _ _ rfl rfl : b1.cell? ⟨w.heap.size, 0, none⟩ = some (.slice a rows.length c)) : b2.cell? ⟨w.heap.size, 0, none⟩ = some (.slice a rows.length c))
  have x0_1 := (by rw [hw2]; exact cell_old _ (by rw [hw1]; exact cell_new _ _ _ rfl rfl : b1.cell? ⟨w.heap.size, 1, none⟩ = some (.slice a' zs.length c')) : b2.cell? ⟨w.heap.size, 1, none⟩ = some (.slice a' zs.length c'))
  have x1_0 := (by rw [hw2]; exact cell_new _ _ _ z1.symm rfl : b2.cell? ⟨w.heap.size + 1, 0, none⟩ = some (.slice p ws.length q))
  have x1_1 := (by rw [hw2]; exact cell_new _ _ _ z1.symm rfl : b2.cell? ⟨w.heap.size + 1, 1, none⟩ = some (.int .i64 b))
  have HB0 := Lib.hid (show Below w.heap.size w b2 by rw [hw2]; exact (show Below w.heap.size w b1 by rw [hw1]; exact (Below.refl w.heap.size w).alloc (Nat.le_refl _) _).alloc (by omega) _)
  have s2 : w.heap.size + 2 ≤ b2.heap.size := by omega
  clear z1 z2
  go_wp2_with fail
  rw [← hw1, ← hw2]
  clear hw1 hw2
  refine (impl_suits a rows c a' zs c' p ws q b _ (HR.out.below HB0.out) (HZ.out.below HB0.out) (HP.out.below HB0.out) hn hk HM.out hw true HBo).mono ?_
  rintro e w1 ⟨rfl, hb⟩
  have s1 : b2.heap.size ≤ w1.heap.size := hb.size
  have n1_0 : w.heap.size < w1.heap.size := by omega
  have n1_1 : w.heap.size + 1 < w1.heap.size := by omega
  replace x0_0 := cell_below hb x0_0 (by omega)
  replace x0_1 := cell_below hb x0_1 (by omega)
  replace x1_0 := cell_below hb x1_0 (by omega)
  replace x1_1 := cell_below hb x1_1 (by omega)
  have HB1 := Lib.hid (HB0.out.trans (hb.mono (by omega)))
  clear hb
  go_wp2_with fail
  refine (impl_hefts a rows c a' zs c' e hs d _ (HH.out.below HB1.out) hnh hn true HHe).mono ?_
  rintro e w2 ⟨rfl, hb⟩
  have s2 : w1.heap.size ≤ w2.heap.size := hb.size
  have n2_0 : w.heap.size < w2.heap.size := by omega
  have n2_1 : w.heap.size + 1 < w2.heap.size := by omega
  replace x0_0 := cell_below hb x0_0 (by omega)
  replace x0_1 := cell_below hb x0_1 (by omega)
  replace x1_0 := cell_below hb x1_0 (by omega)
  replace x1_1 := cell_below hb x1_1 (by omega)
  have HB2 := Lib.hid (HB1.out.trans (hb.mono (by omega)))
  clear hb
  go_wp2_with fail
  refine (impl_wm a rows c a' zs c' e hs d p ws q b _ (HR.out.below HB2.out) (HZ.out.below HB2.out) (HH.out.below HB2.out) (HP.out.below HB2.out) hn HBo.out HHe.out).mono ?_
  rintro e w3 ⟨rfl, hb⟩
  have s3 : w2.heap.size ≤ w3.heap.size := hb.size
  have n3_0 : w.heap.size < w3.heap.size := by omega
  have n3_1 : w.heap.size + 1 < w3.heap.size := by omega
  replace x0_0 := cell_below hb x0_0 (by omega)
  replace x0_1 := cell_below hb x0_1 (by omega)
  replace x1_0 := cell_below hb x1_0 (by omega)
  replace x1_1 := cell_below hb x1_1 (by omega)
  have HB3 := Lib.hid (HB2.out.trans (hb.mono (by omega)))
  clear hb
  go_wp2_with fail
  go_ret2
  exact ⟨rfl, HB3.out⟩
end Go.Proofs.Ythohnnobahcdpaa.wm
