/- Several texts in one. -/
import Derived.Deep.RegionHeld3
import Derived.Test.YtoephhhofkmgjabSpG22
import Derived.Test.YtoephhhofkmgjabSpG20
import Derived.Test.YtoephhhofkmgjabSpG14
import Derived.Test.YtoephhhofkmgjabSpG15
namespace Go.Proofs.Ytoephhhofkmgjab.givei
open Go.RowKit own pp nums planes netp netb givep dots range mk
set_option linter.unusedVariables false
set_option linter.unusedSimpArgs false

/-- A stage: the pointer leads along the layers, the last one first. -/
def Stg (w : World) : List (List (List Int × Int)) → Option Addr → Prop
  | [], p => p = none
  | l :: r, p => ∃ g q a c, p = some ⟨g, 0, none⟩ ∧ g < w.heap.size ∧ w.cell? ⟨g, 0, none⟩ = some (.pointer q) ∧ w.cell? ⟨g, 1, none⟩ = some (.slice a l.length c) ∧ ReadsJ w a l ∧ Stg w r q
theorem Stg.below {w w' : World} {r : List (List (List Int × Int))} {p : Option Addr} (h : Stg w r p) (hb : Below w.heap.size w w') : Stg w' r p := by
  induction r generalizing p with
  | nil => exact h
  | cons l r ih =>
    obtain ⟨g, q, a, c, h1, h2, h3, h4, h5, h6⟩ := h
    exact ⟨g, q, a, c, h1, Nat.lt_of_lt_of_le h2 hb.size, cell_below hb h3 h2, cell_below hb h4 h2, h5.below hb, ih h6⟩
/-- What the layers give, the last one first. -/
def runR : List (List (List Int × Int)) → List Int → List Int
  | [], xs => xs
  | l :: r, xs => give l (runR r xs)
theorem runR_to (ls : List (List (List Int × Int))) (xs : List Int) (k : Nat) (hk : k ≤ ls.length) : runR (ls.take k).reverse xs = runTo ls xs k := by
  induction k with
  | zero => rfl
  | succ k ih =>
    rw [take_snocL ls k (by omega), List.reverse_append]
    show give (ls.getD k []) (runR (ls.take k).reverse xs) = _
    rw [ih (by omega)]
    rfl
set_option maxRecDepth 100000 in
set_option maxHeartbeats 1600000 in
theorem bit_at (p : Option Addr) (ws : List Int) (q : Nat) (b : Int) (a' : Option Addr) (xs : List Int) (c' : Nat) (w : World) (hp : ints.Reads .i64 w p ws) (hx : ints.Reads .i64 w a' xs) (hw : ws.length ≤ 1048576) (hl : ws.length ≤ xs.length) (hxl : xs.length ≤ 1048576) (hS : Small ws xs) (hM : Mid b) :
    Calls Try.prog 127 #[.agg #[.slice p ws.length q, .int .i64 b], .slice a' xs.length c'] w (RetN (bitv (ws, b) xs) w) := by
  have Hhp := Lib.hid hp
  have Hhx := Lib.hid hx
  have HhS := Lib.hid hS
  clear hp hx hS
  unfold bitv
  dsimp only
  rcases (show side ws b xs = 1 ∨ side ws b xs = -1 by unfold side; split <;> simp) with hs | hs
  · rw [if_pos hs]
    go_enter Try.func127, Try.ntmps127
    obtain ⟨wb1, hw1⟩ : ∃ wb1 : World, wb1 = w.alloc (.cells #[.slice p ws.length q, .int .i64 b] 46) := ⟨_, rfl⟩
    have z1 : wb1.heap.size = w.heap.size + 1 := by rw [hw1]; simp
    have x0_0 := (by rw [hw1]; exact cell_new _ _ _ rfl rfl : wb1.cell? ⟨w.heap.size, 0, none⟩ = some (.slice p ws.length q))
    have x0_1 := (by rw [hw1]; exact cell_new _ _ _ rfl rfl : wb1.cell? ⟨w.heap.size, 1, none⟩ = some (.int .i64 b))
    have HB0 := Lib.hid (show Below w.heap.size w wb1 by rw [hw1]; exact (Below.refl w.heap.size w).alloc (Nat.le_refl _) _)
    have s1 : w.heap.size + 1 ≤ wb1.heap.size := by omega
    have HZ1 := Lib.hid z1
    clear z1
    go_wp2_with fail
    rw [← hw1]
    clear hw1
    refine (impl_side p ws q b a' xs c' wb1 (Hhp.out.below HB0.out) (Hhx.out.below HB0.out) hw hl hxl HhS.out hM).mono ?_
    rintro e w2 ⟨rfl, hb⟩
    have HB2 := Lib.hid (HB0.out.trans (hb.mono (by omega)))
    clear hb
    rw [hs]
    clear hs
    go_wp2_with fail
    go_ret
    exact ⟨rfl, HB2.out⟩
  · rw [if_neg (by rw [hs]; decide)]
    go_enter Try.func127, Try.ntmps127
    obtain ⟨wb1, hw1⟩ : ∃ wb1 : World, wb1 = w.alloc (.cells #[.slice p ws.length q, .int .i64 b] 46) := ⟨_, rfl⟩
    have z1 : wb1.heap.size = w.heap.size + 1 := by rw [hw1]; simp
    have x0_0 := (by rw [hw1]; exact cell_new _ _ _ rfl rfl : wb1.cell? ⟨w.heap.size, 0, none⟩ = some (.slice p ws.length q))
    have x0_1 := (by rw [hw1]; exact cell_new _ _ _ rfl rfl : wb1.cell? ⟨w.heap.size, 1, none⟩ = some (.int .i64 b))
    have HB0 := Lib.hid (show Below w.heap.size w wb1 by rw [hw1]; exact (Below.refl w.heap.size w).alloc (Nat.le_refl _) _)
    have s1 : w.heap.size + 1 ≤ wb1.heap.size := by omega
    have HZ1 := Lib.hid z1
    clear z1
    go_wp2_with fail
    rw [← hw1]
    clear hw1
    refine (impl_side p ws q b a' xs c' wb1 (Hhp.out.below HB0.out) (Hhx.out.below HB0.out) hw hl hxl HhS.out hM).mono ?_
    rintro e w2 ⟨rfl, hb⟩
    have HB2 := Lib.hid (HB0.out.trans (hb.mono (by omega)))
    clear hb
    rw [hs]
    clear hs
    go_wp2_with fail
    go_ret
    exact ⟨rfl, HB2.out⟩
set_option maxRecDepth 100000 in
set_option maxHeartbeats 1600000 in
theorem last_any (a : Option Addr) (ls : List (List (List Int × Int))) (c : Nat) (n : Int) (w : World) (hr : ReadsL w a ls) (hn : ls.length ≤ 1048576) :
    Calls Try.prog 95 #[.agg #[.int .i64 n, .slice a ls.length c]] w (fun e w' => ∃ p, e = .returned (.pointer p) ∧ Stg w' ls.reverse p ∧ Below w.heap.size w w') := by
  have Hhr := Lib.hid hr
  clear hr
  go_enter Try.func95, Try.ntmps95
  obtain ⟨wb1, hw1⟩ : ∃ wb1 : World, wb1 = w.alloc (.cells #[.int .i64 n, .slice a ls.length c] 36) := ⟨_, rfl⟩
  have z1 : wb1.heap.size = w.heap.size + 1 := by rw [hw1]; simp
  have x0_0 := (by rw [hw1]; exact cell_new _ _ _ rfl rfl : wb1.cell? ⟨w.heap.size, 0, none⟩ = some (.int .i64 n))
  have x0_1 := (by rw [hw1]; exact cell_new _ _ _ rfl rfl : wb1.cell? ⟨w.heap.size, 1, none⟩ = some (.slice a ls.length c))
  have HB0 := Lib.hid (show Below w.heap.size w wb1 by rw [hw1]; exact (Below.refl w.heap.size w).alloc (Nat.le_refl _) _)
  have s1 : w.heap.size + 1 ≤ wb1.heap.size := by omega
  have HZ1 := Lib.hid z1
  clear z1
  go_wp2_with fail
  rw [← hw1]
  clear hw1
  go_loopw [3, 9] (fun v i wr => ∃ (k : Nat) (p : Option Addr), k ≤ ls.length ∧ i = .int .i64 k ∧ v = .pointer p ∧ Stg wr (ls.take k).reverse p ∧ Below wb1.heap.size wb1 wr) (fun _ i _ => ls.length - (intOf i).toNat)
  case atStart => exact ⟨0, none, by omega, rfl, rfl, rfl, Below.refl _ _⟩
  case round =>
    obtain ⟨k, p, hk, rfl, rfl, hst, hbel⟩ := hrel
    have hsz := hbel.size
    by_cases hlt : k < ls.length
    · obtain ⟨b, off, a2, q2, rfl, hb, hc, _, hrow⟩ := ((Hhr.out.below HB0.out).below hbel).at hlt
      have HS := Lib.hid (show (ls.take (k + 1)).reverse = ls.getD k [] :: (ls.take k).reverse by rw [take_snocL ls k hlt, List.reverse_append]; rfl)
      have HN := Lib.hid (show Stg (wr.alloc (.cells #[.pointer p, .slice a2 (ls.getD k []).length q2] 115)) (ls.getD k [] :: (ls.take k).reverse) (some ⟨wr.heap.size, 0, none⟩) from
        ⟨wr.heap.size, p, a2, q2, rfl, by simp, cell_new _ _ _ rfl rfl, cell_new _ _ _ rfl rfl, hrow.below (below_alloc _ _), hst.below (below_alloc _ _)⟩)
      have HB9 := Lib.hid (hbel.alloc hsz (.cells #[.pointer p, .slice a2 (ls.getD k []).length q2] 115))
      have i1 : (0 : Int) ≤ (k : Int) := by omega
      have i2 : (k : Int) < (ls.length : Int) := by omega
      clear hst hrow hbel
      generalize (ls.take k).reverse = rr at *
      generalize ls.getD k [] = l at *
      go_wp2_with fail
      go_roundw
      case rel => exact ⟨k + 1, _, by omega, by go_num, rfl, by rw [HS.out]; exact HN.out, HB9.out⟩
      case measure => simp [intOf]; omega
    · obtain rfl : k = ls.length := by omega
      rw [List.take_length] at hst
      have HF := Lib.hid (show ∃ p', Ending.returned (.pointer p) = .returned (.pointer p') ∧ Stg wr ls.reverse p' ∧ Below w.heap.size w wr from ⟨p, rfl, hst, HB0.out.trans (hbel.mono (by omega))⟩)
      clear hst hbel
      go_wp2_with fail
      go_ret
      exact HF.out
/-- What a stage returns: what it gives; it is new if there is a layer. -/
def Gave (r : List (List (List Int × Int))) (xs : List Int) (w : World) (e : Ending) (w' : World) : Prop :=
  ∃ p q, e = .returned (.slice p (runR r xs).length q) ∧ ints.Reads .i64 w' p (runR r xs) ∧ (r ≠ [] → OwnI w.heap.size w'.heap.size w' (.slice p (runR r xs).length q) (runR r xs)) ∧ Below w.heap.size w w'
/-- All layers suit what they are given. -/
def All : List (List (List Int × Int)) → List Int → Prop
  | [], xs => True
  | l :: r, xs => l.length ≤ 4 ∧ Suits l (runR r xs) ∧ All r xs
theorem runR_len (r : List (List (List Int × Int))) (xs : List Int) (h : All r xs) (hx : xs.length ≤ 4) : (runR r xs).length ≤ 4 := by
  cases r with
  | nil => exact hx
  | cons l r => show (give l _).length ≤ 4; rw [give_length]; exact h.1
theorem runR_bits (r : List (List (List Int × Int))) (xs : List Int) (hb : numsB 1 xs = true) : numsB 1 (runR r xs) = true := by
  cases r with
  | nil => exact hb
  | cons l r => exact mk_bits _ _ fun i => bitv_cases _ _
set_option maxRecDepth 100000 in
set_option maxHeartbeats 1600000 in
theorem gives_any (r : List (List (List Int × Int))) (p : Option Addr) (a' : Option Addr) (xs : List Int) (c' : Nat) (w : World) (hx : ints.Reads .i64 w a' xs) (hst : Stg w r p) (hA : All r xs) (hx4 : xs.length ≤ 4) (hbx : numsB 1 xs = true) :
    Calls Try.prog 96 #[.pointer p, .slice a' xs.length c'] w (Gave r xs w) := by
  induction r generalizing p w with
  | nil =>
    have h0 : p = none := hst
    clear hst
    subst h0
    have HF := Lib.hid (show Gave [] xs w (.returned (.slice a' xs.length c')) w from ⟨a', c', rfl, hx, fun h => absurd rfl h, Below.refl _ _⟩)
    clear hx
    go_enter Try.func96, Try.ntmps96
    go_wp2_with fail
    go_ret
    exact HF.out
  | cons l r ih =>
    obtain ⟨g, q0, a, c, rfl, hg, hc0, hc1, hrl, hst2⟩ := hst
    obtain ⟨i0, hi, hz0, hz1, hz2⟩ := info_parts infoInt
    obtain ⟨hl4, hsu, hal⟩ := hA
    have HI := Lib.hid (ih q0 w hx hst2 hal)
    have HLn := Lib.hid (runR_len r xs hal hx4)
    have HBt := Lib.hid (runR_bits r xs hbx)
    have HSU := Lib.hid hsu
    have HRL := Lib.hid hrl
    clear hst2 hrl hx hal hsu ih
    go_enter Try.func96, Try.ntmps96
    go_wp2_with fail
    refine HI.out.mono ?_
    rintro e w1 ⟨p1, q1, rfl, hr1, _, hb1⟩
    have HR1 := Lib.hid hr1
    have HB1 := Lib.hid hb1
    have hs1 := hb1.size
    replace hc0 := cell_below hb1 hc0 hg
    replace hc1 := cell_below hb1 hc1 hg
    have HGV := Lib.hid (show runR (l :: r) xs = give l (runR r xs) from rfl)
    clear hr1 hb1 HI
    generalize runR r xs = rs at *
    go_wp2_with (refine wpList_make_full _ rfl _ _ 22 rfl w.heap.size 3 i0 (.int .i64 0) 1 Try.underlying22 hi hz0 hz1 .i64 .i64 _ _ l.length rfl rfl rfl rfl (by rw [hz2]; omega) (by unfold maxLen; omega) hs1 ?_; intro w2 hown1 hgrow1; refine Hid.out ?_)
    have hb2 : Below w1.heap.size w1 w2 := (Below.refl _ _).grown hgrow1 (Nat.le_refl _) (by simp)
    have hs2 := hb2.size
    have hlt2 : w1.heap.size < w2.heap.size := (hown1.lt w1.heap.size rfl).2
    replace hc0 := cell_below hb2 hc0 (by omega)
    replace hc1 := cell_below hb2 hc1 (by omega)
    rw [show (Value.int .i64 0).cells = #[Value.int .i64 0] from rfl, Nat.mul_one, toList_madeCells_one, ← fil_zero (gv l rs)] at hown1
    have HO1 := Lib.hid hown1
    have HB2 := Lib.hid (HB1.out.trans (hb2.mono hs1))
    have HB12 := Lib.hid hb2
    clear hgrow1 hown1 hb2
    refine Lib.hid ?_
    go_wp2_with fail
    go_loopw [29] (fun i wr => ∃ k : Nat, k ≤ l.length ∧ i = .int .i64 k ∧ wr.ownsRow w.heap.size 3 1 (.slice (some ⟨w1.heap.size, 0, none⟩) l.length l.length) l.length (fil (gv l rs) l.length k) ∧ Below w1.heap.size w1 wr) (fun i _ => l.length - (intOf i).toNat)
    case atStart => exact ⟨0, Nat.zero_le _, rfl, HO1.out, HB12.out⟩
    case round =>
      obtain ⟨k, hk, rfl, hown, hbel⟩ := hrel
      have hsz := hbel.size
      have HO := Lib.hid hown
      clear hown HO1
      by_cases hlt : k < l.length
      · obtain ⟨b2, off2, p2, q2, rfl, hbb, hcc0, hcc1, _, hrow⟩ := ((HRL.out.below HB1.out).below hbel).at hlt
        have hsk := HSU.out k hlt
        have HSM := Lib.hid (suit_small HSU.out HBt.out k hlt)
        have HMD := Lib.hid (mid_plane hsk.1)
        have hwl := Nat.le_of_eq hsk.2
        have hrl4 := HLn.out
        have hwl4 : (l.getD k ([], 0)).1.length ≤ 1048576 := by omega
        have i1 : (0 : Int) ≤ (k : Int) := by omega
        have i2 : (k : Int) < (l.length : Int) := by omega
        have HBl := Lib.hid hbel
        have HRW := Lib.hid hrow
        have HGK := Lib.hid (show bitv ((l.getD k ([], 0)).1, (l.getD k ([], 0)).2) rs = gv l rs k from rfl)
        clear hbel hrow hsk
        generalize (l.getD k ([], 0)).1 = ws at *
        generalize (l.getD k ([], 0)).2 = z at *
        have hba := below_alloc wr (.cells #[.slice p2 ws.length q2, .int .i64 z] 46)
        have hsa := hba.size
        have HBA := Lib.hid (bit_at p2 ws q2 z p1 rs q1 _ (HRW.out.below hba) ((HR1.out.below HBl.out).below hba) hwl4 hwl (by omega) HSM.out HMD.out)
        have HBa := Lib.hid hba
        rw [HGK.out] at HBA
        clear hba
        go_wp2_with fail
        refine HBA.out.mono ?_
        rintro e w3 ⟨rfl, hb3⟩
        have hb3 := HBa.out.trans (hb3.mono hsa)
        have hO3 := ownsRow_block (w' := w3) HO.out (fun g' hg' => hb3.block g' (HO.out.lt g' hg').2)
        have hcell : w3.cell? ⟨w1.heap.size, k, none⟩ = some (.int .i64 0) := by rw [hO3.cellAt k (by omega), fil_at _ _ k hlt]
        have hfro := hO3.frozenAt k
        have hst := hO3.stored k (.int .i64 (gv l rs k))
        rw [fil_succ (gv l rs) _ k hlt] at hst
        have HST := Lib.hid hst.1
        have HB3 := Lib.hid (HBl.out.trans (hb3.mono hsz))
        clear hb3 hst hO3 HO
        generalize gv l rs k = y at *
        go_wp2_with fail
        go_roundw
        case rel => exact ⟨k + 1, by omega, by go_num, HST.out, HB3.out.setCell (Nat.le_refl _) _⟩
        case measure => simp [intOf]; omega
      · obtain rfl : k = l.length := by omega
        have HF := Lib.hid (show Gave (l :: r) xs w (.returned (.slice (some ⟨w1.heap.size, 0, none⟩) l.length l.length)) wr from by
          have hB := HB1.out.trans (hbel.mono hs1)
          have ho : OwnI w.heap.size wr.heap.size wr (.slice (some ⟨w1.heap.size, 0, none⟩) (give l rs).length l.length) (give l rs) := OwnI.of (by rw [give_length]; have h9 := HO.out; rw [fil_all] at h9; exact h9)
          rw [← HGV.out] at ho
          refine ⟨some ⟨w1.heap.size, 0, none⟩, l.length, ?_, ho.reads, fun _ => ho, hB⟩
          rw [HGV.out, give_length])
        clear HO hbel
        go_wp2_with fail
        go_ret
        exact HF.out
end Go.Proofs.Ytoephhhofkmgjab.givei

namespace Go.Proofs.Ytoephhhofkmgjab.gives
open Go.RowKit own pp nums planes netp netb givep dots range own1
set_option linter.unusedVariables false
set_option linter.unusedSimpArgs false

set_option maxRecDepth 100000 in
set_option maxHeartbeats 1600000 in
theorem spec_give (a : Option Addr) (l : List (List Int × Int)) (c : Nat) (a' : Option Addr) (xs : List Int) (c' : Nat) (w : World) (hr : ReadsJ w a l) (hx : ints.Reads .i64 w a' xs) (h4 : l.length ≤ 4) (hxl : xs.length ≤ 1048576) (hS : Suits l xs) (hbx : numsB 1 xs = true) :
    Calls Try.prog 123 #[.slice a l.length c, .slice a' xs.length c'] w (intfns.Made (give l xs) w) := by
  obtain ⟨i0, hi, hz0, hz1, hz2⟩ := info_parts mk.infoInt
  have Hhr := Lib.hid hr
  have Hhx := Lib.hid hx
  have HhS := Lib.hid hS
  clear hr hx hS
  go_enter Try.func123, Try.ntmps123
  have hown0 := (own_empty w).1
  have hb0 := below_alloc w (.cells #[] 3)
  go_wp2_with fail
  go_loopw [5, 6] (fun v i wr => ∃ k : Nat, k ≤ l.length ∧ i = .int .i64 k ∧ wr.ownsRow w.heap.size 3 1 v k ((mk.mk (gv l xs) k).map (Value.int .i64)) ∧ Below w.heap.size w wr) (fun _ i _ => l.length - (intOf i).toNat)
  case atStart => exact ⟨0, by omega, rfl, by simpa [mk.mk] using hown0, hb0⟩
  case round =>
    obtain ⟨k, hk, rfl, hown, hbel⟩ := hrel
    clear hown0 hb0
    have hsz := hbel.size
    have HO := Lib.hid hown
    have HBl := Lib.hid hbel
    clear hown
    by_cases hlt : k < l.length
    · obtain ⟨b, off, p, q, rfl, hb, hc0, hc1, _, hrow⟩ := (Hhr.out.below hbel).at hlt
      have HRW := Lib.hid hrow
      have HSM := Lib.hid (suit_small HhS.out hbx k hlt)
      have hsu := HhS.out k hlt
      have hwl := Nat.le_of_eq hsu.2
      have i1 : (0 : Int) ≤ (k : Int) := by omega
      have i2 : (k : Int) < (l.length : Int) := by omega
      clear hrow hbel hsu
      by_cases hs9 : side (l.getD k ([], 0)).1 (l.getD k ([], 0)).2 xs = 1
      · have hgv : gv l xs k = 1 := by unfold gv bitv; rw [if_pos hs9]
        have hsd : (side (l.getD k ([], 0)).1 (l.getD k ([], 0)).2 xs == 1) = true := by simpa using hs9
        clear hs9
        have HSC := Lib.hid (show (mk.mk (gv l xs) (k + 1)).map (Value.int .i64) = (mk.mk (gv l xs) k).map (Value.int .i64) ++ [.int .i64 1] from by rw [mk.mk_succ, List.map_append, show gv l xs k = 1 from hgv]; rfl)
        have hgs : (side (l.getD k ([], 0)).1 (l.getD k ([], 0)).2 xs == 1) = true := hsd
        clear hgv hsd
        have hel : (mk.mk (gv l xs) k).length = k := mk.mk_length _ _
        have HSI := Lib.hid (fun (wa : World) (hB : Below wr.heap.size wr wa) => spec_side p (l.getD k ([], 0)).1 q (l.getD k ([], 0)).2 a' xs c' wa (HRW.out.below hB) ((Hhx.out.below HBl.out).below (hB.mono (Nat.le_refl _))) (by omega) hwl hxl HSM.out)
        generalize mk.mk (gv l xs) k = es at *
        generalize side (l.getD k ([], 0)).1 (l.getD k ([], 0)).2 xs = sd at *
        generalize (l.getD k ([], 0)).1 = ws at *
        generalize (l.getD k ([], 0)).2 = z at *
        go_wp2_with fail
        refine (HSI.out _ (Below.refl _ _)).mono ?_
        rintro e wq ⟨rfl, hbq⟩
        have hzq := hbq.size
        have HBq := Lib.hid (HBl.out.trans (hbq.mono hsz))
        have HOq := Lib.hid (ownsRow_block (w' := wq) HO.out (fun g hg => hbq.block g (HO.out.lt g hg).2))
        have HV := Lib.hid HOq.out.lt
        clear hbq
        go_wp2_with (at_builtin; refine wpList_append_own _ rfl _ _ 22 rfl w.heap.size 3 i0 (.int .i64 0) 1 8 Try.underlying22 hi hz0 hz1 hz2 rfl (by decide) _ _ _ rfl (HOq.out.alloc _) ⟨wq.heap.size, 0, none⟩ 1 1 [.int .i64 1] rfl rfl (cell_one_new _ _ _) (by simp [Value.oneCell']) (by unfold maxLen; omega) (by omega) (by simp; omega) ?_; intro v' w2 hown' hgrow _)
        have HO2 := Lib.hid hown'
        have HB2 := Lib.hid ((HBq.out.alloc (Nat.le_trans hsz hzq) _).grown hgrow (by simp; omega) (fun g e => (HV.out g e).1))
        clear hown' hgrow
        go_wp2_with fail
        go_roundw
        case rel => exact ⟨k + 1, by omega, by go_num, by rw [HSC.out]; exact HO2.out, HB2.out⟩
        case measure => simp [intOf]; omega
      · have hgv : gv l xs k = 0 := by unfold gv bitv; rw [if_neg hs9]
        have hsd : (side (l.getD k ([], 0)).1 (l.getD k ([], 0)).2 xs == 1) = false := by simpa using hs9
        clear hs9
        have HSC := Lib.hid (show (mk.mk (gv l xs) (k + 1)).map (Value.int .i64) = (mk.mk (gv l xs) k).map (Value.int .i64) ++ [.int .i64 0] from by rw [mk.mk_succ, List.map_append, show gv l xs k = 0 from hgv]; rfl)
        have hgs : (side (l.getD k ([], 0)).1 (l.getD k ([], 0)).2 xs == 1) = false := hsd
        clear hgv hsd
        have hel : (mk.mk (gv l xs) k).length = k := mk.mk_length _ _
        have HSI := Lib.hid (fun (wa : World) (hB : Below wr.heap.size wr wa) => spec_side p (l.getD k ([], 0)).1 q (l.getD k ([], 0)).2 a' xs c' wa (HRW.out.below hB) ((Hhx.out.below HBl.out).below (hB.mono (Nat.le_refl _))) (by omega) hwl hxl HSM.out)
        generalize mk.mk (gv l xs) k = es at *
        generalize side (l.getD k ([], 0)).1 (l.getD k ([], 0)).2 xs = sd at *
        generalize (l.getD k ([], 0)).1 = ws at *
        generalize (l.getD k ([], 0)).2 = z at *
        go_wp2_with fail
        refine (HSI.out _ (Below.refl _ _)).mono ?_
        rintro e wq ⟨rfl, hbq⟩
        have hzq := hbq.size
        have HBq := Lib.hid (HBl.out.trans (hbq.mono hsz))
        have HOq := Lib.hid (ownsRow_block (w' := wq) HO.out (fun g hg => hbq.block g (HO.out.lt g hg).2))
        have HV := Lib.hid HOq.out.lt
        clear hbq
        go_wp2_with (at_builtin; refine wpList_append_own _ rfl _ _ 22 rfl w.heap.size 3 i0 (.int .i64 0) 1 8 Try.underlying22 hi hz0 hz1 hz2 rfl (by decide) _ _ _ rfl (HOq.out.alloc _) ⟨wq.heap.size, 0, none⟩ 1 1 [.int .i64 0] rfl rfl (cell_one_new _ _ _) (by simp [Value.oneCell']) (by unfold maxLen; omega) (by omega) (by simp; omega) ?_; intro v' w2 hown' hgrow _)
        have HO2 := Lib.hid hown'
        have HB2 := Lib.hid ((HBq.out.alloc (Nat.le_trans hsz hzq) _).grown hgrow (by simp; omega) (fun g e => (HV.out g e).1))
        clear hown' hgrow
        go_wp2_with fail
        go_roundw
        case rel => exact ⟨k + 1, by omega, by go_num, by rw [HSC.out]; exact HO2.out, HB2.out⟩
        case measure => simp [intOf]; omega
    · obtain rfl : k = l.length := by omega
      have HF := Lib.hid (show intfns.Made (give l xs) w (.returned u5) wr from ⟨_, rfl, OwnI.of (by rw [give_length]; exact HO.out), HBl.out⟩)
      clear HO hbel
      go_wp2_with fail
      go_ret
      exact HF.out
set_option maxRecDepth 100000 in
set_option maxHeartbeats 1600000 in
theorem spec_run (a : Option Addr) (ls : List (List (List Int × Int))) (c : Nat) (n : Int) (a' : Option Addr) (xs : List Int) (c' : Nat) (w : World) (hr : ReadsL w a ls) (hx : ints.Reads .i64 w a' xs) (hn : ls.length ≤ 1048576) (h : netB n ls = true) (hx9 : (xs.length : Int) = n) (hbx : numsB 1 xs = true) :
    Calls Try.prog 91 #[.agg #[.int .i64 n, .slice a ls.length c], .slice a' xs.length c'] w (intfns.Made (runTo ls xs ls.length) w) := by
  have Hhr := Lib.hid hr
  have Hhx := Lib.hid hx
  clear hr hx
  have HH := Lib.hid h
  have hl6 := net_len h
  have hg0 := net_giv h 0 (by omega)
  rw [giv_zero] at hg0
  clear h
  go_enter Try.func91, Try.ntmps91
  obtain ⟨wb1, hw1⟩ : ∃ wb1 : World, wb1 = w.alloc (.cells #[.int .i64 n, .slice a ls.length c] 36) := ⟨_, rfl⟩
  have z1 : wb1.heap.size = w.heap.size + 1 := by rw [hw1]; simp
  have x0_0 := (by rw [hw1]; exact cell_new _ _ _ rfl rfl : wb1.cell? ⟨w.heap.size, 0, none⟩ = some (.int .i64 n))
  have x0_1 := (by rw [hw1]; exact cell_new _ _ _ rfl rfl : wb1.cell? ⟨w.heap.size, 1, none⟩ = some (.slice a ls.length c))
  have HB0 := Lib.hid (show Below w.heap.size w wb1 by rw [hw1]; exact (Below.refl w.heap.size w).alloc (Nat.le_refl _) _)
  have s1 : w.heap.size + 1 ≤ wb1.heap.size := by omega
  have HZ1 := Lib.hid z1
  clear z1
  go_wp2_with fail
  rw [← hw1]
  clear hw1
  refine (spec_own a' xs c' wb1 (Hhx.out.below HB0.out) (by omega) (by omega)).mono ?_
  rintro e w2 ⟨v, rfl, ho, hb⟩
  replace x0_0 := cell_below hb x0_0 (by omega)
  replace x0_1 := cell_below hb x0_1 (by omega)
  have hzb := hb.size
  have HB2 := Lib.hid (HB0.out.trans (hb.mono (by omega)))
  have HO2 := Lib.hid (ho.mono (lo' := w.heap.size) (by omega) (Nat.le_refl _))
  clear hb ho
  go_wp2_with fail
  go_loopw [5, 6] (fun v i wr => ∃ k : Nat, k ≤ ls.length ∧ i = .int .i64 k ∧ OwnI w.heap.size wr.heap.size wr v (runTo ls xs k) ∧ Below w2.heap.size w2 wr) (fun _ i _ => ls.length - (intOf i).toNat)
  case atStart => exact ⟨0, by omega, rfl, HO2.out, Below.refl _ _⟩
  case round =>
    obtain ⟨k, hk, rfl, hown, hbel⟩ := hrel
    have hsz := hbel.size
    replace x0_0 := cell_below hbel x0_0 (by omega)
    replace x0_1 := cell_below hbel x0_1 (by omega)
    by_cases hlt : k < ls.length
    · obtain ⟨p9, q9, rfl, hrd, _, _⟩ := hown.slice
      obtain ⟨b, off, p, q, rfl, hb, hc, _, hrow⟩ := ((Hhr.out.below HB2.out).below hbel).at hlt
      have HGI := Lib.hid (spec_give p (ls.getD k []) q p9 (runTo ls xs k) q9 wr hrow hrd (net_lay HH.out k hlt).2 (by rw [run_length hx9]; have := net_giv HH.out k hk; omega) (run_suits HH.out hx9 k hlt) (run_bits hbx k))
      have HRS := Lib.hid (run_succ ls xs k)
      have HBl := Lib.hid hbel
      have i1 : (0 : Int) ≤ (k : Int) := by omega
      have i2 : (k : Int) < (ls.length : Int) := by omega
      clear hbel hrow hrd hown
      generalize runTo ls xs k = rs at *
      generalize ls.getD k [] = l at *
      go_wp2_with fail
      refine HGI.out.mono ?_
      rintro e w3 ⟨v3, rfl, ho3, hb3⟩
      have HB3 := Lib.hid (HBl.out.trans (hb3.mono hsz))
      have HO3 := Lib.hid (ho3.mono (lo' := w.heap.size) (by omega) (Nat.le_refl _))
      clear hb3 ho3
      go_wp2_with fail
      go_roundw
      case rel => exact ⟨k + 1, by omega, by go_num, by rw [HRS.out]; exact HO3.out, HB3.out⟩
      case measure => simp [intOf]; omega
    · obtain rfl : k = ls.length := by omega
      have HF := Lib.hid (show intfns.Made (runTo ls xs ls.length) w (.returned u5) wr from ⟨_, rfl, hown, HB2.out.trans (hbel.mono HB2.out.size)⟩)
      clear hown hbel
      go_wp2_with fail
      go_ret
      exact HF.out
end Go.Proofs.Ytoephhhofkmgjab.gives

namespace Go.Proofs.Ytoephhhofkmgjab.evali
open Go.RowKit own pp nums planes netp netb givep dots range mk givei
set_option linter.unusedVariables false
set_option linter.unusedSimpArgs false

theorem all_of {n : Int} {ls : List (List (List Int × Int))} {xs : List Int} (h : netB n ls = true) (hx : (xs.length : Int) = n) (k : Nat) (hk : k ≤ ls.length) : All (ls.take k).reverse xs := by
  induction k with
  | zero => exact trivial
  | succ k ih =>
    rw [take_snocL ls k (by omega), List.reverse_append]
    refine ⟨(net_lay h k (by omega)).2, ?_, ih (by omega)⟩
    show Suits (ls.getD k []) (runR (ls.take k).reverse xs)
    rw [runR_to ls xs k (by omega)]
    exact run_suits h hx k (by omega)
theorem row_of {n : Int} {xs : List Int} (h1 : (xs.length : Int) = n) : rowsB' n xs = numsR 0 1 xs := by
  unfold rowsB'; rw [decide_eq_true h1, Bool.and_true]
theorem row_ne {n : Int} {xs : List Int} (h1 : (xs.length : Int) ≠ n) : rowsB' n xs = false := by
  unfold rowsB'; rw [decide_eq_false h1, Bool.and_false]
theorem own_row {xs : List Int} (h : numsR 0 1 xs = true) : numsB 1 xs = true := all_true _ 0 _ fun k hk => by
  have := numsR_at h k hk
  rw [inB_iff]; omega
end Go.Proofs.Ytoephhhofkmgjab.evali
