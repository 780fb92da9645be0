/- The tests of nets, the model's and the program's. -/
import Derived.Test.YtkbcofgigfnfaabNetP
import Derived.Test.YtkbcofgigfnfaabPlanes
import Derived.Test.YtkbcofgigfnfaabIdxJ
import Derived.Deep.RegionHeld3
import Derived.Deep.DrawnRows
import Derived.BigQuiet
namespace Go.Proofs.Ytkbcofgigfnfaab.netb
open Go.RowKit own pp nums planes netp idxj
set_option linter.unusedVariables false
set_option linter.unusedSimpArgs false

set_option maxHeartbeats 1000000 in
theorem inputs_any (n : Int) (w : World) (ok : Bool) (h : Hid ((decide (1 ≤ n) && decide (n ≤ 4)) = ok)) :
    Calls Try.prog 163 #[.int .i64 n] w (Says ok w) := by
  by_cases h1 : 1 ≤ n
  · by_cases h2 : n ≤ 4
    · obtain rfl : ok = true := by rw [← h.out]; simp [h1, h2]
      clear h
      go_enter Try.func163, Try.ntmps163
      go_wp2_with fail
      go_ret
      exact ⟨rfl, rfl⟩
    · obtain rfl : ok = false := by rw [← h.out]; simp [h2]
      clear h
      go_enter Try.func163, Try.ntmps163
      go_wp2_with fail
      go_ret
      exact ⟨rfl, rfl⟩
  · obtain rfl : ok = false := by rw [← h.out]; simp [h1]
    clear h
    go_enter Try.func163, Try.ntmps163
    go_wp2_with fail
    go_ret
    exact ⟨rfl, rfl⟩
set_option maxRecDepth 100000 in
set_option maxHeartbeats 1600000 in
theorem gate_at (g : Nat) (G : Nat) (p : Option Addr) (ws : List Int) (q : Nat) (b : Int) (w : World) (y0 : w.cell? ⟨g, 0, none⟩ = some (.int .i64 G)) (hp : ints.Reads .i64 w p ws) (hw : ws.length ≤ 1048576) (ok : Bool) (h : Hid (gateB G (ws, b) = ok)) :
    Calls Try.prog 203 #[.agg #[.slice p ws.length q, .int .i64 b], .pointer (some ⟨g, 0, none⟩)] w (fun e w' => e = .returned (.bool (!ok)) ∧ Below w.heap.size w w') := by
  have hg := World.block_lt_of_cell? w _ y0
  dsimp only at hg
  have Hhp := Lib.hid hp
  clear hp
  replace y0 := cell_old (.cells #[.slice p ws.length q, .int .i64 b] 56) y0
  go_enter Try.func203, Try.ntmps203
  obtain ⟨wb1, hw1⟩ : ∃ wb1 : World, wb1 = w.alloc (.cells #[.slice p ws.length q, .int .i64 b] 56) := ⟨_, rfl⟩
  have z1 : wb1.heap.size = w.heap.size + 1 := by rw [hw1]; simp
  have x0_0 := (by rw [hw1]; exact cell_new _ _ _ rfl rfl : wb1.cell? ⟨w.heap.size, 0, none⟩ = some (.slice p ws.length q))
  have x0_1 := (by rw [hw1]; exact cell_new _ _ _ rfl rfl : wb1.cell? ⟨w.heap.size, 1, none⟩ = some (.int .i64 b))
  have HB0 := Lib.hid (show Below w.heap.size w wb1 by rw [hw1]; exact (Below.refl w.heap.size w).alloc (Nat.le_refl _) _)
  have s1 : w.heap.size + 1 ≤ wb1.heap.size := by omega
  have HZ1 := Lib.hid z1
  clear z1
  go_wp2_with fail
  rw [← hw1]
  rw [show w.alloc (.cells #[.slice p ws.length q, .int .i64 b] 56) = wb1 from hw1.symm] at y0
  clear hw1
  cases hp9 : planeB ws b
  · have HP := Lib.hid hp9
    obtain rfl : ok = false := by rw [← h.out]; unfold gateB; rw [hp9]; rfl
    clear h hp9
    refine (impl_plane p ws q b _ (Hhp.out.below HB0.out) hw false HP).mono ?_
    rintro e w2 ⟨rfl, hb⟩
    replace x0_0 := cell_below hb x0_0 (by omega)
    replace x0_1 := cell_below hb x0_1 (by omega)
    replace y0 := cell_below hb y0 (by omega)
    have HB2 := Lib.hid (HB0.out.trans (hb.mono (by omega)))
    clear hb
    go_wp2_with fail
    go_ret
    exact ⟨rfl, HB2.out⟩
  · have HP := Lib.hid hp9
    have HE := Lib.hid (show (decide (ws.length = G)) = ok by rw [← h.out]; unfold gateB; rw [hp9]; rfl)
    clear h hp9
    by_cases he : ws.length = G
    · obtain rfl : ok = true := by rw [← HE.out]; simpa using he
      have g1 : ((ws.length : Int) != (G : Int)) = false := by simp; omega
      clear HE
      refine (impl_plane p ws q b _ (Hhp.out.below HB0.out) hw true HP).mono ?_
      rintro e w2 ⟨rfl, hb⟩
      replace x0_0 := cell_below hb x0_0 (by omega)
      replace x0_1 := cell_below hb x0_1 (by omega)
      replace y0 := cell_below hb y0 (by omega)
      have HB2 := Lib.hid (HB0.out.trans (hb.mono (by omega)))
      clear hb
      go_wp2_with fail
      go_ret
      exact ⟨rfl, HB2.out⟩
    · obtain rfl : ok = false := by rw [← HE.out]; simpa using he
      have g1 : ((ws.length : Int) != (G : Int)) = true := by simp; omega
      clear HE
      refine (impl_plane p ws q b _ (Hhp.out.below HB0.out) hw true HP).mono ?_
      rintro e w2 ⟨rfl, hb⟩
      replace x0_0 := cell_below hb x0_0 (by omega)
      replace x0_1 := cell_below hb x0_1 (by omega)
      replace y0 := cell_below hb y0 (by omega)
      have HB2 := Lib.hid (HB0.out.trans (hb.mono (by omega)))
      clear hb
      go_wp2_with fail
      go_ret
      exact ⟨rfl, HB2.out⟩
set_option maxRecDepth 100000 in
set_option maxHeartbeats 1600000 in
theorem layer_any (a : Option Addr) (ps : List (List Int × Int)) (c : Nat) (G : Nat) (w : World) (hr : ReadsJ w a ps) (hn : ps.length ≤ 1048576) (hw2 : ∀ k, k < ps.length → (ps.getD k ([], 0)).1.length ≤ 1048576) (ok : Bool) (h : Hid (layB G ps = ok)) :
    Calls Try.prog 164 #[.slice a ps.length c, .int .i64 G] w (RetB ok w) := by
  have Hhr := Lib.hid hr
  have Hhw2 := Lib.hid hw2
  clear hr hw2
  have HE := Lib.hid (show (decide (1 ≤ ps.length) && decide (ps.length ≤ 4) && (List.range ps.length).all fun k => gateB G (ps.getD k ([], 0))) = ok from h.out)
  clear h
  by_cases h1 : 1 ≤ ps.length
  · by_cases h4 : ps.length ≤ 4
    · have i1 : decide ((ps.length : Int) < 1) = false := by simp; omega
      have i2 : decide ((4 : Int) < (ps.length : Int)) = false := by simp; omega
      go_enter Try.func164, Try.ntmps164
      obtain ⟨wb1, hw1⟩ : ∃ wb1 : World, wb1 = w.alloc (.cells #[.int .i64 G] 3) := ⟨_, rfl⟩
      have z1 : wb1.heap.size = w.heap.size + 1 := by rw [hw1]; simp
      have x0_0 := (by rw [hw1]; exact cell_new _ _ _ rfl rfl : wb1.cell? ⟨w.heap.size, 0, none⟩ = some (.int .i64 G))
      have HB0 := Lib.hid (show Below w.heap.size w wb1 by rw [hw1]; exact (Below.refl w.heap.size w).alloc (Nat.le_refl _) _)
      have s1 : w.heap.size + 1 ≤ wb1.heap.size := by omega
      have HZ1 := Lib.hid z1
      clear z1
      go_wp2_with fail
      rw [← hw1]
      clear hw1
      refine (hasP 203 (enters_of Try.func203 (by kernel_rfl) rfl) _ a ps c (fun k => !(gateB G (ps.getD k ([], 0)))) wb1 (by omega) (Lib.hid (Hhr.out.below HB0.out)) (Lib.hid fun k wr q d hk' hb hq => ?_)).mono ?_
      · exact gate_at w.heap.size G q _ d _ wr (cell_below hb x0_0 (by omega)) hq (Hhw2.out k hk') _ (Lib.hid rfl)
      rintro e w2 ⟨rfl, hb⟩
      have HB2 := Lib.hid (HB0.out.trans (hb.mono (by omega)))
      have HF := Lib.hid (show RetB ok w (.returned (.bool (!((List.range ps.length).any fun k => !(gateB G (ps.getD k ([], 0))))))) w2 from ⟨by
        rw [← HE.out, List.not_any_eq_all_not]; simp [h1, h4], HB2.out⟩)
      clear hb
      generalize ((List.range ps.length).any fun k => !(gateB G (ps.getD k ([], 0)))) = y9 at *
      go_wp2_with fail
      go_ret
      exact HF.out
    · obtain rfl : ok = false := by rw [← HE.out]; simp [h4]
      clear HE
      go_enter Try.func164, Try.ntmps164
      obtain ⟨wb1, hw1⟩ : ∃ wb1 : World, wb1 = w.alloc (.cells #[.int .i64 G] 3) := ⟨_, rfl⟩
      have z1 : wb1.heap.size = w.heap.size + 1 := by rw [hw1]; simp
      have x0_0 := (by rw [hw1]; exact cell_new _ _ _ rfl rfl : wb1.cell? ⟨w.heap.size, 0, none⟩ = some (.int .i64 G))
      have HB0 := Lib.hid (show Below w.heap.size w wb1 by rw [hw1]; exact (Below.refl w.heap.size w).alloc (Nat.le_refl _) _)
      have s1 : w.heap.size + 1 ≤ wb1.heap.size := by omega
      have HZ1 := Lib.hid z1
      clear z1
      go_wp2_with fail
      rw [← hw1]
      clear hw1
      go_ret
      exact ⟨rfl, HB0.out⟩
  · obtain rfl : ok = false := by rw [← HE.out]; simp [h1]
    clear HE
    go_enter Try.func164, Try.ntmps164
    obtain ⟨wb1, hw1⟩ : ∃ wb1 : World, wb1 = w.alloc (.cells #[.int .i64 G] 3) := ⟨_, rfl⟩
    have z1 : wb1.heap.size = w.heap.size + 1 := by rw [hw1]; simp
    have x0_0 := (by rw [hw1]; exact cell_new _ _ _ rfl rfl : wb1.cell? ⟨w.heap.size, 0, none⟩ = some (.int .i64 G))
    have HB0 := Lib.hid (show Below w.heap.size w wb1 by rw [hw1]; exact (Below.refl w.heap.size w).alloc (Nat.le_refl _) _)
    have s1 : w.heap.size + 1 ≤ wb1.heap.size := by omega
    have HZ1 := Lib.hid z1
    clear z1
    go_wp2_with fail
    rw [← hw1]
    clear hw1
    go_ret
    exact ⟨rfl, HB0.out⟩
set_option maxRecDepth 100000 in
set_option maxHeartbeats 1600000 in
theorem impl_net (a : Option Addr) (ls : List (List (List Int × Int))) (c : Nat) (n : Int) (w : World) (hr : ReadsL w a ls) (hn : ls.length ≤ 1048576) (hm : ∀ x ∈ ls, x.length ≤ 1048576 ∧ ∀ y ∈ x, y.1.length ≤ 1048576) (ok : Bool) (h : Hid (netB n ls = ok)) :
    Calls Try.prog 89 #[.agg #[.int .i64 n, .slice a ls.length c]] w (RetB ok w) := by
  have Hhr := Lib.hid hr
  have Hhm := Lib.hid hm
  clear hr hm
  go_enter Try.func89, Try.ntmps89
  obtain ⟨wb1, hw1⟩ : ∃ wb1 : World, wb1 = w.alloc (.cells #[.int .i64 n, .slice a ls.length c] 44) := ⟨_, rfl⟩
  have z1 : wb1.heap.size = w.heap.size + 1 := by rw [hw1]; simp
  have x0_0 := (by rw [hw1]; exact cell_new _ _ _ rfl rfl : wb1.cell? ⟨w.heap.size, 0, none⟩ = some (.int .i64 n))
  have x0_1 := (by rw [hw1]; exact cell_new _ _ _ rfl rfl : wb1.cell? ⟨w.heap.size, 1, none⟩ = some (.slice a ls.length c))
  have HB0 := Lib.hid (show Below w.heap.size w wb1 by rw [hw1]; exact (Below.refl w.heap.size w).alloc (Nat.le_refl _) _)
  have s1 : w.heap.size + 1 ≤ wb1.heap.size := by omega
  have HZ1 := Lib.hid z1
  clear z1
  go_wp2_with fail
  rw [← hw1]
  clear hw1
  cases hin : (decide (1 ≤ n) && decide (n ≤ 4))
  · obtain rfl : ok = false := by
      rw [← h.out]
      cases e : netB n ls
      · rfl
      · have := (netB_iff _ _).1 e
        simp at hin; omega
    have HI := Lib.hid hin
    clear h hin
    refine (inputs_any n _ false HI).mono ?_
    rintro e w' ⟨rfl, rfl⟩
    go_wp2_with fail
    go_ret
    exact ⟨rfl, HB0.out⟩
  have HI := Lib.hid hin
  have hn4 : 1 ≤ n ∧ n ≤ 4 := by simpa using hin
  clear hin
  by_cases h1 : 1 ≤ ls.length
  rotate_left
  · obtain rfl : ok = false := by
      rw [← h.out]
      cases e : netB n ls
      · rfl
      · have := (netB_iff _ _).1 e
        omega
    clear h
    refine (inputs_any n _ true HI).mono ?_
    rintro e w' ⟨rfl, rfl⟩
    go_wp2_with fail
    go_ret
    exact ⟨rfl, HB0.out⟩
  by_cases h6 : ls.length ≤ 6
  rotate_left
  · obtain rfl : ok = false := by
      rw [← h.out]
      cases e : netB n ls
      · rfl
      · have := (netB_iff _ _).1 e
        omega
    clear h
    refine (inputs_any n _ true HI).mono ?_
    rintro e w' ⟨rfl, rfl⟩
    go_wp2_with fail
    go_ret
    exact ⟨rfl, HB0.out⟩
  refine (inputs_any n _ true HI).mono ?_
  rintro e w' ⟨rfl, rfl⟩
  have HG0 := Lib.hid (show n = ((giv n.toNat ls 0 : Nat) : Int) by rw [giv_zero]; omega)
  go_wp2_with fail
  go_loopw [3, 27] (fun g i wr => ∃ k : Nat, k ≤ ls.length ∧ i = .int .i64 k ∧ g = .int .i64 ((giv n.toNat ls k : Nat) : Int) ∧ Hid (∀ j, j < k → layB (giv n.toNat ls j) (ls.getD j []) = true) ∧ Below wb1.heap.size wb1 wr) (fun _ i _ => ls.length - (intOf i).toNat)
  case atStart => exact ⟨0, Nat.zero_le _, rfl, by rw [← HG0.out], fun j hj => by omega, Below.refl _ _⟩
  case round =>
    obtain ⟨k, hk, rfl, rfl, hj, hbel⟩ := hrel
    by_cases hlt : k < ls.length
    · obtain ⟨b, off, p, q, rfl, hb, hc, hpq, hrow⟩ := (Hhr.out.below HB0.out).at hlt
      have hmk := Hhm.out (ls.getD k []) (getD_mem _ _ _ hlt)
      have hmy : ∀ i, i < (ls.getD k []).length → ((ls.getD k []).getD i ([], 0)).1.length ≤ 1048576 := fun i hi => hmk.2 _ (getD_mem _ _ _ hi)
      have HMY := Lib.hid hmy
      have hml := hmk.1
      have HS := Lib.hid (giv_succ n.toNat ls k)
      replace hc := cell_below hbel hc hb
      have HR2 := Lib.hid (hrow.below hbel)
      have HBl := Lib.hid hbel
      have hsz := hbel.size
      clear hbel hrow hmk hmy hpq
      cases hl : layB (giv n.toNat ls k) (ls.getD k [])
      · obtain rfl : ok = false := by rw [← h.out]; exact net_no k hlt hl
        have HL := Lib.hid hl
        clear h hl hj HS
        generalize giv n.toNat ls k = g at *
        generalize ls.getD k [] = l at *
        go_wp2_with fail
        refine (layer_any p l q g _ HR2.out hml HMY.out false HL).mono ?_
        rintro e w2 ⟨rfl, hb2⟩
        have HB2 := Lib.hid (HB0.out.trans ((HBl.out.trans (hb2.mono hsz)).mono (by omega)))
        clear hb2
        go_wp2_with fail
        go_ret
        exact ⟨rfl, HB2.out⟩
      · have HJ : Hid (∀ j, j < k + 1 → layB (giv n.toNat ls j) (ls.getD j []) = true) := fun j h => by
          by_cases e : j = k
          · rw [e]; exact hl
          · exact hj.out j (by omega)
        have HL := Lib.hid hl
        clear hl hj
        generalize giv n.toNat ls k = g at HL
        generalize hl9 : ls.getD k [] = l at HL HR2 HMY hml HS hc
        clear hl9
        go_wp2_with fail
        refine (layer_any p l q g _ HR2.out hml HMY.out true HL).mono ?_
        rintro e w2 ⟨rfl, hb2⟩
        have HB2 := Lib.hid (HBl.out.trans (hb2.mono hsz))
        clear hb2
        go_wp2_with fail
        go_roundw
        case rel => exact ⟨k + 1, by omega, by go_num, by rw [HS.out], HJ, HB2.out⟩
        case measure => simp [intOf]; omega
    · obtain rfl : k = ls.length := by omega
      obtain rfl : ok = true := by rw [← h.out]; exact (netB_iff _ _).2 ⟨hn4.1, hn4.2, h1, h6, hj.out⟩
      have HB2 := Lib.hid (HB0.out.trans (hbel.mono (by omega)))
      clear h hj hbel
      go_wp2_with fail
      go_ret
      exact ⟨rfl, HB2.out⟩
set_option maxRecDepth 100000 in
set_option maxHeartbeats 1600000 in
theorem spec_good (a : Option Addr) (ls : List (List (List Int × Int))) (c : Nat) (n : Int) (w : World) (hr : ReadsL w a ls) (hn : ls.length ≤ 1048576) (hm : ∀ x ∈ ls, x.length ≤ 1048576 ∧ ∀ y ∈ x, y.1.length ≤ 1048576) (ok : Bool) (h : Hid (netB n ls = ok)) :
    Calls Try.prog 86 #[.agg #[.int .i64 n, .slice a ls.length c]] w (RetB ok w) := by
  have Hhr := Lib.hid hr
  have Hhm := Lib.hid hm
  clear hr hm
  cases hin : (decide (1 ≤ n) && decide (n ≤ 4))
  · obtain rfl : ok = false := by
      rw [← h.out]
      cases e : netB n ls
      · rfl
      · have := (netB_iff _ _).1 e
        simp at hin; omega
    have HI := Lib.hid hin
    clear h hin
    go_enter Try.func86, Try.ntmps86
    obtain ⟨wb1, hw1⟩ : ∃ wb1 : World, wb1 = w.alloc (.cells #[.int .i64 n, .slice a ls.length c] 44) := ⟨_, rfl⟩
    have z1 : wb1.heap.size = w.heap.size + 1 := by rw [hw1]; simp
    have x0_0 := (by rw [hw1]; exact cell_new _ _ _ rfl rfl : wb1.cell? ⟨w.heap.size, 0, none⟩ = some (.int .i64 n))
    have x0_1 := (by rw [hw1]; exact cell_new _ _ _ rfl rfl : wb1.cell? ⟨w.heap.size, 1, none⟩ = some (.slice a ls.length c))
    have HB0 := Lib.hid (show Below w.heap.size w wb1 by rw [hw1]; exact (Below.refl w.heap.size w).alloc (Nat.le_refl _) _)
    have s1 : w.heap.size + 1 ≤ wb1.heap.size := by omega
    have HZ1 := Lib.hid z1
    clear z1
    go_wp2_with fail
    rw [← hw1]
    clear hw1
    refine (in_any _ _ _ _ false HI).mono ?_
    rintro e w' ⟨rfl, rfl⟩
    go_wp2_with fail
    go_ret
    exact ⟨rfl, HB0.out⟩
  have HI := Lib.hid hin
  have hn4 : 1 ≤ n ∧ n ≤ 4 := by simpa using hin
  clear hin
  cases hin : (decide ((1 : Int) ≤ ls.length) && decide ((ls.length : Int) ≤ 6))
  · obtain rfl : ok = false := by
      rw [← h.out]
      cases e : netB n ls
      · rfl
      · have := (netB_iff _ _).1 e
        simp at hin; omega
    have HI2 := Lib.hid hin
    clear h hin
    go_enter Try.func86, Try.ntmps86
    obtain ⟨wb1, hw1⟩ : ∃ wb1 : World, wb1 = w.alloc (.cells #[.int .i64 n, .slice a ls.length c] 44) := ⟨_, rfl⟩
    have z1 : wb1.heap.size = w.heap.size + 1 := by rw [hw1]; simp
    have x0_0 := (by rw [hw1]; exact cell_new _ _ _ rfl rfl : wb1.cell? ⟨w.heap.size, 0, none⟩ = some (.int .i64 n))
    have x0_1 := (by rw [hw1]; exact cell_new _ _ _ rfl rfl : wb1.cell? ⟨w.heap.size, 1, none⟩ = some (.slice a ls.length c))
    have HB0 := Lib.hid (show Below w.heap.size w wb1 by rw [hw1]; exact (Below.refl w.heap.size w).alloc (Nat.le_refl _) _)
    have s1 : w.heap.size + 1 ≤ wb1.heap.size := by omega
    have HZ1 := Lib.hid z1
    clear z1
    go_wp2_with fail
    rw [← hw1]
    clear hw1
    refine (in_any _ _ _ _ true HI).mono ?_
    rintro e w' ⟨rfl, rfl⟩
    go_wp2_with fail
    refine (in_any _ _ _ _ false HI2).mono ?_
    rintro e w' ⟨rfl, rfl⟩
    go_wp2_with fail
    go_ret
    exact ⟨rfl, HB0.out⟩
  have HI2 := Lib.hid hin
  have hn6 : 1 ≤ ls.length ∧ ls.length ≤ 6 := by simp at hin; omega
  have HG0 := Lib.hid (show n = ((giv n.toNat ls 0 : Nat) : Int) by rw [giv_zero]; omega)
  clear hin
  go_enter Try.func86, Try.ntmps86
  obtain ⟨wb1, hw1⟩ : ∃ wb1 : World, wb1 = w.alloc (.cells #[.int .i64 n, .slice a ls.length c] 44) := ⟨_, rfl⟩
  have z1 : wb1.heap.size = w.heap.size + 1 := by rw [hw1]; simp
  have x0_0 := (by rw [hw1]; exact cell_new _ _ _ rfl rfl : wb1.cell? ⟨w.heap.size, 0, none⟩ = some (.int .i64 n))
  have x0_1 := (by rw [hw1]; exact cell_new _ _ _ rfl rfl : wb1.cell? ⟨w.heap.size, 1, none⟩ = some (.slice a ls.length c))
  have HB0 := Lib.hid (show Below w.heap.size w wb1 by rw [hw1]; exact (Below.refl w.heap.size w).alloc (Nat.le_refl _) _)
  have s1 : w.heap.size + 1 ≤ wb1.heap.size := by omega
  have HZ1 := Lib.hid z1
  clear z1
  go_wp2_with fail
  rw [← hw1]
  clear hw1
  refine (in_any _ _ _ _ true HI).mono ?_
  rintro e w' ⟨rfl, rfl⟩
  go_wp2_with fail
  refine (in_any _ _ _ _ true HI2).mono ?_
  rintro e w' ⟨rfl, rfl⟩
  go_wp2_with fail
  go_loopw [3, 4] (fun g i wr => ∃ k : Nat, k ≤ ls.length ∧ i = .int .i64 k ∧ g = .int .i64 ((giv n.toNat ls k : Nat) : Int) ∧ Hid (∀ j, j < k → layB (giv n.toNat ls j) (ls.getD j []) = true) ∧ Below wb1.heap.size wb1 wr) (fun _ i _ => ls.length - (intOf i).toNat)
  case atStart => exact ⟨0, Nat.zero_le _, rfl, by rw [← HG0.out], fun j hj => by omega, Below.refl _ _⟩
  case round =>
    obtain ⟨k, hk, rfl, rfl, hj, hbel⟩ := hrel
    replace x0_0 := cell_below hbel x0_0 (by omega)
    replace x0_1 := cell_below hbel x0_1 (by omega)
    by_cases hlt : k < ls.length
    · obtain ⟨b, off, p, q, rfl, hb, hc, hpq, hrow⟩ := (Hhr.out.below HB0.out).at hlt
      have hmk := Hhm.out (ls.getD k []) (getD_mem _ _ _ hlt)
      have HMY := Lib.hid (show ∀ i, i < (ls.getD k []).length → ((ls.getD k []).getD i ([], 0)).1.length ≤ 1048576 from fun i hi => hmk.2 _ (getD_mem _ _ _ hi))
      have hml := hmk.1
      have HS := Lib.hid (giv_succ n.toNat ls k)
      have hbg := hbel.size
      replace hc := cell_below hbel hc hb
      have hb' : b < wr.heap.size := by omega
      have HR2 := Lib.hid (hrow.below hbel)
      have HBl := Lib.hid hbel
      have HLB := Lib.hid (show layB (giv n.toNat ls k) (ls.getD k []) = true ∨ netB n ls = false by
        cases e : layB (giv n.toNat ls k) (ls.getD k [])
        · exact .inr (net_no k hlt e)
        · exact .inl rfl)
      obtain ⟨wo, hwo⟩ : ∃ wo : World, wo = wr := ⟨_, rfl⟩
      rw [← hwo] at x0_0 x0_1 hbg hc hb' HR2 HBl
      rw [← hwo]
      clear hwo wr hbel hrow hmk hpq hb
      have HNO := Lib.hid (fun i (hi : i < (ls.getD k []).length) (e : gateB (giv n.toNat ls k) ((ls.getD k []).getD i ([], 0)) = false) => net_no k hlt (lay_no i hi e))
      have HYS := Lib.hid (fun (e1 : 1 ≤ (ls.getD k []).length) (e2 : (ls.getD k []).length ≤ 4) (e3 : ∀ i, i < (ls.getD k []).length → gateB (giv n.toNat ls k) ((ls.getD k []).getD i ([], 0)) = true) => (layB_iff (giv n.toNat ls k) (ls.getD k [])).2 ⟨e1, e2, e3⟩)
      generalize hg9 : giv n.toNat ls k = g at *
      generalize hl9 : ls.getD k [] = l at *
      have HL9 := Lib.hid hl9
      have HG9 := Lib.hid hg9
      clear hl9 hg9
      go_wp2_with fail
      go_loopw [5] (fun i wr => ∃ m : Nat, m ≤ l.length ∧ i = .int .i64 m ∧ Hid (∀ j, j < m → gateB g (l.getD j ([], 0)) = true) ∧ Below wo.heap.size wo wr) (fun i _ => l.length - (intOf i).toNat)
      case atStart => exact ⟨0, Nat.zero_le _, rfl, fun j hj => by omega, Below.refl _ _⟩
      case round =>
        obtain ⟨m, hm', rfl, hjm, hbel⟩ := hrel
        replace x0_0 := cell_below hbel x0_0 (by omega)
        replace x0_1 := cell_below hbel x0_1 (by omega)
        replace hc := cell_below hbel hc hb'
        have hbs := hbel.size
        by_cases hlm : m < l.length
        · obtain ⟨b2, off2, p2, q2, rfl, hb2, hc0, hc1, hpq2, hrow2⟩ := (HR2.out.below hbel).at hlm
          have hwl := HMY.out m hlm
          have HR3 := Lib.hid hrow2
          have HBm := Lib.hid hbel
          have HNO2 := Lib.hid (HNO.out m hlm)
          have i1 : (0 : Int) ≤ (m : Int) := by omega
          have i2 : (m : Int) < (l.length : Int) := by omega
          clear hbel hrow2 hpq2
          cases hp9 : planeB (l.getD m ([], 0)).1 (l.getD m ([], 0)).2
          · obtain rfl : ok = false := by rw [← h.out]; exact HNO2.out (by unfold gateB; rw [hp9]; rfl)
            have HP := Lib.hid hp9
            clear h hp9 hjm
            generalize (l.getD m ([], 0)).1 = ws at *
            generalize (l.getD m ([], 0)).2 = z at *
            go_wp2_with fail
            refine (spec_plane p2 ws q2 z _ HR3.out hwl false HP).mono ?_
            rintro e w2 ⟨rfl, hb9⟩
            have HB2 := Lib.hid (HB0.out.trans ((HBl.out.trans ((HBm.out.trans (hb9.mono hbs)).mono hbg)).mono (by omega)))
            clear hb9
            go_wp2_with fail
            go_ret
            exact ⟨rfl, HB2.out⟩
          · have HP := Lib.hid hp9
            have HGE := Lib.hid (show (l.getD m ([], 0)).1.length = g → gateB g (l.getD m ([], 0)) = true from fun e => (gateB_iff _ _).2 ⟨hp9, e⟩)
            have HGN := Lib.hid (show (l.getD m ([], 0)).1.length ≠ g → gateB g (l.getD m ([], 0)) = false from fun e => by unfold gateB; rw [decide_eq_false e, Bool.and_false])
            clear hp9
            by_cases he : (l.getD m ([], 0)).1.length = g
            · have HJ : Hid (∀ j, j < m + 1 → gateB g (l.getD j ([], 0)) = true) := fun j h => by
                by_cases e : j = m
                · rw [e]; exact HGE.out he
                · exact hjm.out j (by omega)
              clear HGE HGN HNO2 hjm
              generalize hws : (l.getD m ([], 0)).1 = ws at *
              generalize (l.getD m ([], 0)).2 = z at *
              have g1 : ((ws.length : Int) != (g : Int)) = false := by simp; omega
              have HE := Lib.hid he
              clear he hws
              go_wp2_with fail
              refine (spec_plane p2 ws q2 z _ HR3.out hwl true HP).mono ?_
              rintro e w2 ⟨rfl, hb9⟩
              replace x0_0 := cell_below hb9 x0_0 (by omega)
              replace x0_1 := cell_below hb9 x0_1 (by omega)
              replace hc := cell_below hb9 hc (by omega)
              replace hc0 := cell_below hb9 hc0 hb2
              have HB2 := Lib.hid (HBm.out.trans (hb9.mono hbs))
              clear hb9
              go_wp2_with fail
              go_roundw
              case rel => exact ⟨m + 1, by omega, by go_num, HJ, HB2.out⟩
              case measure => simp [intOf]; omega
            · obtain rfl : ok = false := by rw [← h.out]; exact HNO2.out (HGN.out he)
              clear HGE HGN HNO2 hjm h
              generalize hws : (l.getD m ([], 0)).1 = ws at *
              generalize (l.getD m ([], 0)).2 = z at *
              have g1 : ((ws.length : Int) != (g : Int)) = true := by simp; omega
              clear he hws
              go_wp2_with fail
              refine (spec_plane p2 ws q2 z _ HR3.out hwl true HP).mono ?_
              rintro e w2 ⟨rfl, hb9⟩
              replace x0_0 := cell_below hb9 x0_0 (by omega)
              replace x0_1 := cell_below hb9 x0_1 (by omega)
              replace hc := cell_below hb9 hc (by omega)
              replace hc0 := cell_below hb9 hc0 hb2
              have HB2 := Lib.hid (HB0.out.trans ((HBl.out.trans ((HBm.out.trans (hb9.mono hbs)).mono hbg)).mono (by omega)))
              clear hb9
              go_wp2_with fail
              go_ret
              exact ⟨rfl, HB2.out⟩
        · obtain rfl : m = l.length := by omega
          have HBm := Lib.hid hbel
          have HAL := Lib.hid hjm.out
          clear hbel hjm
          cases hin2 : (decide ((1 : Int) ≤ (l.length : Int)) && decide ((l.length : Int) ≤ 4))
          · obtain rfl : ok = false := by
              rw [← h.out]
              refine HLB.out.resolve_left fun e => ?_
              have := (layB_iff _ _).1 e
              simp at hin2; omega
            have HI3 := Lib.hid hin2
            clear h hin2 HLB
            go_wp2_with fail
            refine (in_any _ _ _ _ false HI3).mono ?_
            rintro e w' ⟨rfl, rfl⟩
            have HB2 := Lib.hid (HB0.out.trans ((HBl.out.trans (HBm.out.mono hbg)).mono (by omega)))
            go_wp2_with fail
            go_ret
            exact ⟨rfl, HB2.out⟩
          · have HI3 := Lib.hid hin2
            have hl14 : 1 ≤ l.length ∧ l.length ≤ 4 := by simp at hin2; omega
            have HJ : Hid (∀ j, j < k + 1 → layB (giv n.toNat ls j) (ls.getD j []) = true) := fun j hjk => by
              by_cases e : j = k
              · rw [e, HG9.out, HL9.out]; exact HYS.out hl14.1 hl14.2 HAL.out
              · exact hj.out j (by omega)
            have HB2 := Lib.hid (HBl.out.trans (HBm.out.mono hbg))
            clear hin2 HLB HAL hj
            go_wp2_with fail
            refine (in_any _ _ _ _ true HI3).mono ?_
            rintro e w' ⟨rfl, rfl⟩
            go_wp2_with fail
            go_roundw
            case rel => exact ⟨k + 1, by omega, by go_num, by rw [HS.out], HJ, HB2.out⟩
            case measure => simp [intOf]; omega
    · obtain rfl : k = ls.length := by omega
      obtain rfl : ok = true := by rw [← h.out]; exact (netB_iff _ _).2 ⟨hn4.1, hn4.2, hn6.1, hn6.2, hj.out⟩
      have HB2 := Lib.hid (HB0.out.trans (hbel.mono (by omega)))
      clear h hj hbel
      go_wp2_with fail
      go_ret
      exact ⟨rfl, HB2.out⟩
end Go.Proofs.Ytkbcofgigfnfaab.netb
