/- The program's side and mistakes of a decider, whatever it is. -/
import Derived.Test.YthohnnobahcdpaaWhere
import Derived.Test.YthohnnobahcdpaaSamplesT
import Derived.Test.YthohnnobahcdpaaSidesOf
import Derived.Outline
import Derived.Shelf.Abstract
namespace Go.Proofs.Ythohnnobahcdpaa.dec
open Go.RowKit own pp nums pwh samplesv samplest sides
set_option linter.unusedVariables false
set_option linter.unusedSimpArgs false

set_option maxRecDepth 100000 in
set_option maxHeartbeats 4000000 in
theorem side_no (T : TypeId) (rv : Value) (K1 : Nat) (he1 : Enters Try.prog K1) (hm1 : ∀ w : World, Sem.run Try.prog (method 282 T rv "loop.example/g01135/impl.suitsSample") w = .ok (K1, rv) w) (p : Option Addr) (xs : List Int) (q : Nat) (w : World) (HS : Hid (∀ (wa : World) (pa qa : Option Addr), Below w.heap.size w wa → grid.Reads wa pa [xs] → ints.Reads .i64 wa qa [1] → Calls Try.prog K1 #[rv, .agg #[.slice pa 1 1, .slice qa 1 1]] wa (RetB false wa))) (hr : ints.Reads .i64 w p xs) (hq : xs.length ≤ q) :
    Calls Try.prog 89 #[.iface T rv, .slice p xs.length q] w (RetNB 0 false w) := by
  have HR := Lib.hid hr
  clear hr
  unfold Enters at he1
  go_enter Try.func89, Try.ntmps89
  obtain ⟨b1, hw1⟩ : ∃ b1 : World, b1 = w.alloc (.cells #[.slice p xs.length q] 22) := ⟨_, rfl⟩
  obtain ⟨b2, hw2⟩ : ∃ b2 : World, b2 = b1.alloc (.cells #[.int .i64 1] 3) := ⟨_, rfl⟩
  obtain ⟨b3, hw3⟩ : ∃ b3 : World, b3 = b2.alloc (.cells #[.slice (some ⟨w.heap.size, 0, none⟩) 1 1, .slice (some ⟨w.heap.size + 1, 0, none⟩) 1 1] 38) := ⟨_, rfl⟩
  have z1 : b1.heap.size = w.heap.size + 1 := by rw [hw1]; simp
  have z2 : b2.heap.size = w.heap.size + 2 := by rw [hw2]; simp; omega
  have z3 : b3.heap.size = w.heap.size + 3 := by rw [hw3]; simp; omega
  have x0_0 := (by rw [hw3]; exact cell_old _ (by rw [hw2]; exact cell_old _ (by rw [hw1]; exact cell_new _ _ _ rfl rfl : b1.cell? ⟨w.heap.size, 0, none⟩ = some (.slice p xs.length q)) : b2.cell? ⟨w.heap.size, 0, none⟩ = some (.slice p xs.length q)) : b3.cell? ⟨w.heap.size, 0, none⟩ = some (.slice p xs.length q))
  have x1_0 := (by rw [hw3]; exact cell_old _ (by rw [hw2]; exact cell_new _ _ _ z1.symm rfl : b2.cell? ⟨w.heap.size + 1, 0, none⟩ = some (.int .i64 1)) : b3.cell? ⟨w.heap.size + 1, 0, none⟩ = some (.int .i64 1))
  have x2_0 := (by rw [hw3]; exact cell_new _ _ _ z2.symm rfl : b3.cell? ⟨w.heap.size + 2, 0, none⟩ = some (.slice (some ⟨w.heap.size, 0, none⟩) 1 1))
  have x2_1 := (by rw [hw3]; exact cell_new _ _ _ z2.symm rfl : b3.cell? ⟨w.heap.size + 2, 1, none⟩ = some (.slice (some ⟨w.heap.size + 1, 0, none⟩) 1 1))
  have HB0 := Lib.hid (show Below w.heap.size w b3 by rw [hw3]; exact (show Below w.heap.size w b2 by rw [hw2]; exact (show Below w.heap.size w b1 by rw [hw1]; exact (Below.refl w.heap.size w).alloc (Nat.le_refl _) _).alloc (by omega) _).alloc (by omega) _)
  have s3 : w.heap.size + 3 ≤ b3.heap.size := by omega
  have HZ3 := Lib.hid z3
  clear z1 z2 z3
  go_wp2_with fail
  rw [← hw1, ← hw2, ← hw3]
  clear hw1 hw2 hw3
  have hg9 : grid.Reads b3 (some ⟨w.heap.size, 0, none⟩) [xs] := .inr ⟨w.heap.size, 0, rfl, by omega, fun i hi => by
    have : i = 0 := by simp at hi; omega
    subst this
    exact ⟨p, q, x0_0, hq, HR.out.below HB0.out⟩⟩
  have hl9 : ints.Reads .i64 b3 (some ⟨w.heap.size + 1, 0, none⟩) [1] := .inr ⟨w.heap.size + 1, 0, rfl, by omega, fun i hi => by
    have : i = 0 := by simp at hi; omega
    subst this
    exact x1_0⟩
  refine (HS.out _ _ _ HB0.out hg9 hl9).mono ?_
  rintro e w4 ⟨rfl, hb⟩
  have HB4 := Lib.hid (HB0.out.trans (hb.mono (by omega)))
  clear hb hg9 hl9
  go_wp2_with fail
  go_ret2
  exact ⟨rfl, HB4.out⟩
set_option maxRecDepth 100000 in
set_option maxHeartbeats 4000000 in
theorem side_yes (T : TypeId) (rv : Value) (K1 K2 : Nat) (he1 : Enters Try.prog K1) (hm1 : ∀ w : World, Sem.run Try.prog (method 282 T rv "loop.example/g01135/impl.suitsSample") w = .ok (K1, rv) w) (he2 : Enters Try.prog K2) (hm2 : ∀ w : World, Sem.run Try.prog (method 282 T rv "loop.example/g01135/impl.sideOf") w = .ok (K2, rv) w) (p : Option Addr) (xs : List Int) (q : Nat) (n : Int) (w : World) (HS : Hid (∀ (wa : World) (pa qa : Option Addr), Below w.heap.size w wa → grid.Reads wa pa [xs] → ints.Reads .i64 wa qa [1] → Calls Try.prog K1 #[rv, .agg #[.slice pa 1 1, .slice qa 1 1]] wa (RetB true wa))) (HD : Hid (∀ wa : World, Below w.heap.size w wa → Calls Try.prog K2 #[rv, .slice p xs.length q] wa (RetN n wa))) (hr : ints.Reads .i64 w p xs) (hq : xs.length ≤ q) :
    Calls Try.prog 89 #[.iface T rv, .slice p xs.length q] w (RetNB n true w) := by
  have HR := Lib.hid hr
  clear hr
  unfold Enters at he1 he2
  go_enter Try.func89, Try.ntmps89
  obtain ⟨b1, hw1⟩ : ∃ b1 : World, b1 = w.alloc (.cells #[.slice p xs.length q] 22) := ⟨_, rfl⟩
  obtain ⟨b2, hw2⟩ : ∃ b2 : World, b2 = b1.alloc (.cells #[.int .i64 1] 3) := ⟨_, rfl⟩
  obtain ⟨b3, hw3⟩ : ∃ b3 : World, b3 = b2.alloc (.cells #[.slice (some ⟨w.heap.size, 0, none⟩) 1 1, .slice (some ⟨w.heap.size + 1, 0, none⟩) 1 1] 38) := ⟨_, rfl⟩
  have z1 : b1.heap.size = w.heap.size + 1 := by rw [hw1]; simp
  have z2 : b2.heap.size = w.heap.size + 2 := by rw [hw2]; simp; omega
  have z3 : b3.heap.size = w.heap.size + 3 := by rw [hw3]; simp; omega
  have x0_0 := (by rw [hw3]; exact cell_old _ (by rw [hw2]; exact cell_old _ (by rw [hw1]; exact cell_new _ _ _ rfl rfl : b1.cell? ⟨w.heap.size, 0, none⟩ = some (.slice p xs.length q)) : b2.cell? ⟨w.heap.size, 0, none⟩ = some (.slice p xs.length q)) : b3.cell? ⟨w.heap.size, 0, none⟩ = some (.slice p xs.length q))
  have x1_0 := (by rw [hw3]; exact cell_old _ (by rw [hw2]; exact cell_new _ _ _ z1.symm rfl : b2.cell? ⟨w.heap.size + 1, 0, none⟩ = some (.int .i64 1)) : b3.cell? ⟨w.heap.size + 1, 0, none⟩ = some (.int .i64 1))
  have x2_0 := (by rw [hw3]; exact cell_new _ _ _ z2.symm rfl : b3.cell? ⟨w.heap.size + 2, 0, none⟩ = some (.slice (some ⟨w.heap.size, 0, none⟩) 1 1))
  have x2_1 := (by rw [hw3]; exact cell_new _ _ _ z2.symm rfl : b3.cell? ⟨w.heap.size + 2, 1, none⟩ = some (.slice (some ⟨w.heap.size + 1, 0, none⟩) 1 1))
  have HB0 := Lib.hid (show Below w.heap.size w b3 by rw [hw3]; exact (show Below w.heap.size w b2 by rw [hw2]; exact (show Below w.heap.size w b1 by rw [hw1]; exact (Below.refl w.heap.size w).alloc (Nat.le_refl _) _).alloc (by omega) _).alloc (by omega) _)
  have s3 : w.heap.size + 3 ≤ b3.heap.size := by omega
  have HZ3 := Lib.hid z3
  clear z1 z2 z3
  go_wp2_with fail
  rw [← hw1, ← hw2, ← hw3]
  clear hw1 hw2 hw3
  have hg9 : grid.Reads b3 (some ⟨w.heap.size, 0, none⟩) [xs] := .inr ⟨w.heap.size, 0, rfl, by omega, fun i hi => by
    have : i = 0 := by simp at hi; omega
    subst this
    exact ⟨p, q, x0_0, hq, HR.out.below HB0.out⟩⟩
  have hl9 : ints.Reads .i64 b3 (some ⟨w.heap.size + 1, 0, none⟩) [1] := .inr ⟨w.heap.size + 1, 0, rfl, by omega, fun i hi => by
    have : i = 0 := by simp at hi; omega
    subst this
    exact x1_0⟩
  refine (HS.out _ _ _ HB0.out hg9 hl9).mono ?_
  rintro e w4 ⟨rfl, hb⟩
  have HB4 := Lib.hid (HB0.out.trans (hb.mono (by omega)))
  clear hb hg9 hl9
  go_wp2_with fail
  refine (HD.out _ HB4.out).mono ?_
  rintro e w5 ⟨rfl, hb⟩
  have HB5 := Lib.hid (HB4.out.trans (hb.mono HB4.out.size))
  clear hb
  go_wp2_with fail
  go_ret2
  exact ⟨rfl, HB5.out⟩
set_option maxRecDepth 100000 in
set_option maxHeartbeats 4000000 in
theorem mis_closure (T : TypeId) (rv : Value) (K2 : Nat) (he2 : Enters Try.prog K2) (hm2 : ∀ w : World, Sem.run Try.prog (method 282 T rv "loop.example/g01135/impl.sideOf") w = .ok (K2, rv) w) (hna : ∀ w : World, Sem.run Try.prog (nilAhead 282 T rv "loop.example/g01135/impl.sideOf") w = .ok (some false) w) (k m l g1 g2 bl off lb lo : Nat) (c c' : Nat) (rp : Option Addr) (r : List Int) (rq : Nat) (n z : Int) (w : World) (x0 : w.cell? ⟨g1, 0, none⟩ = some (.iface T rv)) (x1 : w.cell? ⟨g2, 0, none⟩ = some (.slice (some ⟨bl, off, none⟩) m c)) (x2 : w.cell? ⟨g2, 1, none⟩ = some (.slice (some ⟨lb, lo, none⟩) l c')) (x3 : w.cell? ⟨bl, off + k, none⟩ = some (.slice rp r.length rq)) (x4 : w.cell? ⟨lb, lo + k, none⟩ = some (.int .i64 z)) (hk : k < m) (hl : k < l) (hm16 : m ≤ 16) (hl16 : l ≤ 16) (HD : Hid (∀ wa : World, Below w.heap.size w wa → Calls Try.prog K2 #[rv, .slice rp r.length rq] wa (RetN n wa))) :
    Calls Try.prog 123 #[.int .i64 k, .pointer (some ⟨g1, 0, none⟩), .pointer (some ⟨g2, 0, none⟩)] w (RetB (n != z) w) := by
  have hl0 := World.block_lt_of_cell? w _ x0
  have hl1 := World.block_lt_of_cell? w _ x1
  have hl3 := World.block_lt_of_cell? w _ x3
  have hl4 := World.block_lt_of_cell? w _ x4
  dsimp only at hl0 hl1 hl3 hl4
  have HT := Lib.hid (show ∀ wa : World, (wa.cell? ⟨g1, 0, none⟩ = some (.iface T rv) ∧ wa.cell? ⟨g2, 0, none⟩ = some (.slice (some ⟨bl, off, none⟩) m c) ∧ wa.cell? ⟨g2, 1, none⟩ = some (.slice (some ⟨lb, lo, none⟩) l c') ∧ wa.cell? ⟨bl, off + k, none⟩ = some (.slice rp r.length rq) ∧ wa.cell? ⟨lb, lo + k, none⟩ = some (.int .i64 z) ∧ Below w.heap.size w wa) → Calls Try.prog K2 #[rv, .slice rp r.length rq] wa fun e w' => e = .returned (.int .i64 n) ∧ (w'.cell? ⟨g1, 0, none⟩ = some (.iface T rv) ∧ w'.cell? ⟨g2, 0, none⟩ = some (.slice (some ⟨bl, off, none⟩) m c) ∧ w'.cell? ⟨g2, 1, none⟩ = some (.slice (some ⟨lb, lo, none⟩) l c') ∧ w'.cell? ⟨bl, off + k, none⟩ = some (.slice rp r.length rq) ∧ w'.cell? ⟨lb, lo + k, none⟩ = some (.int .i64 z) ∧ Below w.heap.size w w') from fun wa hS => by
    have hz := hS.2.2.2.2.2.size
    refine (HD.out wa hS.2.2.2.2.2).mono ?_
    rintro e w' ⟨rfl, hb⟩
    exact ⟨rfl, cell_below hb hS.1 (by omega), cell_below hb hS.2.1 (by omega), cell_below hb hS.2.2.1 (by omega), cell_below hb hS.2.2.2.1 (by omega), cell_below hb hS.2.2.2.2.1 (by omega), hS.2.2.2.2.2.trans (hb.mono (by omega))⟩)
  unfold Enters at he2
  have i1 : (0 : Int) ≤ (k : Int) := by omega
  have i2 : (k : Int) < (m : Int) := by omega
  have i3 : (k : Int) < (l : Int) := by omega
  clear hl0 hl1 hl3 hl4
  go_enter Try.func123, Try.ntmps123
  go_wp2_with fail
  go_region_held3 (fun w' => w'.cell? ⟨g1, 0, none⟩ = some (.iface T rv) ∧ w'.cell? ⟨g2, 0, none⟩ = some (.slice (some ⟨bl, off, none⟩) m c) ∧ w'.cell? ⟨g2, 1, none⟩ = some (.slice (some ⟨lb, lo, none⟩) l c') ∧ w'.cell? ⟨bl, off + k, none⟩ = some (.slice rp r.length rq) ∧ w'.cell? ⟨lb, lo + k, none⟩ = some (.int .i64 z) ∧ Below w.heap.size w w') (first | assumption | exact ⟨x0, x1, x2, x3, x4, Below.refl _ _⟩ | exact ⟨x0, x1, x2, x3, x4, (Below.refl _ _).drew⟩) (first | (refine Calls.mono (HT.out _ (by assumption)) ?_; rintro e wq ⟨rfl, hbx⟩))
  have HBq := Lib.hid hbx.2.2.2.2.2
  clear hbx
  go_wp2_with fail
  go_ret
  exact ⟨rfl, HBq.out⟩
set_option maxRecDepth 100000 in
set_option maxHeartbeats 4000000 in
theorem mis_no (T : TypeId) (rv : Value) (K1 : Nat) (he1 : Enters Try.prog K1) (hm1 : ∀ w : World, Sem.run Try.prog (method 282 T rv "loop.example/g01135/impl.suitsSample") w = .ok (K1, rv) w) (a : Option Addr) (rows : List (List Int)) (c : Nat) (a' : Option Addr) (zs : List Int) (c' : Nat) (w : World) (HS : Hid (∀ wa : World, Below w.heap.size w wa → Calls Try.prog K1 #[rv, .agg #[.slice a rows.length c, .slice a' zs.length c']] wa (RetB false wa))) :
    Calls Try.prog 91 #[.agg #[.slice a rows.length c, .slice a' zs.length c'], .iface T rv] w (RetIB [] false w) := by
  unfold Enters at he1
  go_enter Try.func91, Try.ntmps91
  obtain ⟨b1, hw1⟩ : ∃ b1 : World, b1 = w.alloc (.cells #[.slice a rows.length c, .slice a' zs.length c'] 38) := ⟨_, rfl⟩
  obtain ⟨b2, hw2⟩ : ∃ b2 : World, b2 = b1.alloc (.cells #[.iface T rv] 125) := ⟨_, rfl⟩
  have z1 : b1.heap.size = w.heap.size + 1 := by rw [hw1]; simp
  have z2 : b2.heap.size = w.heap.size + 2 := by rw [hw2]; simp; omega
  have x0_0 := (by rw [hw2]; exact cell_old _ (by rw [hw1]; exact cell_new _ _ _ rfl rfl : b1.cell? ⟨w.heap.size, 0, none⟩ = some (.slice a rows.length c)) : b2.cell? ⟨w.heap.size, 0, none⟩ = some (.slice a rows.length c))
  have x0_1 := (by rw [hw2]; exact cell_old _ (by rw [hw1]; exact cell_new _ _ _ rfl rfl : b1.cell? ⟨w.heap.size, 1, none⟩ = some (.slice a' zs.length c')) : b2.cell? ⟨w.heap.size, 1, none⟩ = some (.slice a' zs.length c'))
  have x1_0 := (by rw [hw2]; exact cell_new _ _ _ z1.symm rfl : b2.cell? ⟨w.heap.size + 1, 0, none⟩ = some (.iface T rv))
  have HB0 := Lib.hid (show Below w.heap.size w b2 by rw [hw2]; exact (show Below w.heap.size w b1 by rw [hw1]; exact (Below.refl w.heap.size w).alloc (Nat.le_refl _) _).alloc (by omega) _)
  have s2 : w.heap.size + 2 ≤ b2.heap.size := by omega
  have HZ2 := Lib.hid z2
  clear z1 z2
  go_wp2_with fail
  rw [← hw1, ← hw2]
  clear hw1 hw2
  refine (HS.out _ HB0.out).mono ?_
  rintro e w4 ⟨rfl, hb⟩
  have y0 := cell_below hb x0_0 (by omega)
  have y1 := cell_below hb x0_1 (by omega)
  have y2 := cell_below hb x1_0 (by omega)
  have s4 := hb.size
  have HB4 := Lib.hid (HB0.out.trans (hb.mono (by omega)))
  clear hb
  go_wp2_with fail
  go_ret2
  exact ret_empty HB4.out
set_option maxRecDepth 100000 in
set_option maxHeartbeats 4000000 in
theorem mis_yes (T : TypeId) (rv : Value) (K1 K2 : Nat) (he1 : Enters Try.prog K1) (hm1 : ∀ w : World, Sem.run Try.prog (method 282 T rv "loop.example/g01135/impl.suitsSample") w = .ok (K1, rv) w) (he2 : Enters Try.prog K2) (hm2 : ∀ w : World, Sem.run Try.prog (method 282 T rv "loop.example/g01135/impl.sideOf") w = .ok (K2, rv) w) (hna : ∀ w : World, Sem.run Try.prog (nilAhead 282 T rv "loop.example/g01135/impl.sideOf") w = .ok (some false) w) (a : Option Addr) (rows : List (List Int)) (c : Nat) (a' : Option Addr) (zs : List Int) (c' : Nat) (ss : Nat → Int) (w : World) (HS : Hid (∀ wa : World, Below w.heap.size w wa → Calls Try.prog K1 #[rv, .agg #[.slice a rows.length c, .slice a' zs.length c']] wa (RetB true wa))) (HD : Hid (∀ (k : Nat) (wa : World) (rp : Option Addr) (rq : Nat), k < rows.length → Below w.heap.size w wa → ints.Reads .i64 wa rp (rows.getD k []) → Calls Try.prog K2 #[rv, .slice rp (rows.getD k []).length rq] wa (RetN (ss k) wa))) (hr : grid.Reads w a rows) (hz : ints.Reads .i64 w a' zs) (hl : zs.length = rows.length) (h16 : rows.length ≤ 16) :
    Calls Try.prog 91 #[.agg #[.slice a rows.length c, .slice a' zs.length c'], .iface T rv] w (RetIB (placesTo (fun k => ss k != zs.getD k 0) rows.length) true w) := by
  have HR := Lib.hid hr
  have HZ := Lib.hid hz
  have HL := Lib.hid hl
  clear hr hz hl
  have HC := Lib.hid (show ∀ (k : Nat) (wr : World) (b b2 : Nat), k < rows.length → Below w.heap.size w wr → wr.cell? ⟨b2, 0, none⟩ = some (.iface T rv) → wr.cell? ⟨b, 0, none⟩ = some (.slice a rows.length c) → wr.cell? ⟨b, 1, none⟩ = some (.slice a' zs.length c') → Calls Try.prog 123 #[.int .i64 k, .pointer (some ⟨b2, 0, none⟩), .pointer (some ⟨b, 0, none⟩)] wr fun e w' => e = .returned (.bool (ss k != zs.getD k 0)) ∧ Below wr.heap.size wr w' from fun k wr b b2 hk hB h0 h1 h2 => by
    obtain ⟨bl, off, rp, rq, hab, hbl, hc, hpq, hrow⟩ := (HR.out.below hB).at hk
    subst hab
    obtain ⟨lb, lo, hlb, hll, hlc⟩ := (HZ.out.below hB).at (k := k) (by rw [HL.out]; exact hk)
    subst hlb
    exact mis_closure T rv K2 he2 hm2 hna k rows.length zs.length b2 b bl off lb lo c c' rp _ rq (ss k) (zs.getD k 0) wr h0 h1 h2 hc hlc hk (by rw [HL.out]; exact hk) h16 (by rw [HL.out]; exact h16) (Lib.hid fun wa hb => HD.out k wa rp rq hk (hB.trans (hb.mono hB.size)) (hrow.below hb)))
  unfold Enters at he1
  go_enter Try.func91, Try.ntmps91
  obtain ⟨b1, hw1⟩ : ∃ b1 : World, b1 = w.alloc (.cells #[.slice a rows.length c, .slice a' zs.length c'] 38) := ⟨_, rfl⟩
  obtain ⟨b2, hw2⟩ : ∃ b2 : World, b2 = b1.alloc (.cells #[.iface T rv] 125) := ⟨_, rfl⟩
  have z1 : b1.heap.size = w.heap.size + 1 := by rw [hw1]; simp
  have z2 : b2.heap.size = w.heap.size + 2 := by rw [hw2]; simp; omega
  have x0_0 := (by rw [hw2]; exact cell_old _ (by rw [hw1]; exact cell_new _ _ _ rfl rfl : b1.cell? ⟨w.heap.size, 0, none⟩ = some (.slice a rows.length c)) : b2.cell? ⟨w.heap.size, 0, none⟩ = some (.slice a rows.length c))
  have x0_1 := (by rw [hw2]; exact cell_old _ (by rw [hw1]; exact cell_new _ _ _ rfl rfl : b1.cell? ⟨w.heap.size, 1, none⟩ = some (.slice a' zs.length c')) : b2.cell? ⟨w.heap.size, 1, none⟩ = some (.slice a' zs.length c'))
  have x1_0 := (by rw [hw2]; exact cell_new _ _ _ z1.symm rfl : b2.cell? ⟨w.heap.size + 1, 0, none⟩ = some (.iface T rv))
  have HB0 := Lib.hid (show Below w.heap.size w b2 by rw [hw2]; exact (show Below w.heap.size w b1 by rw [hw1]; exact (Below.refl w.heap.size w).alloc (Nat.le_refl _) _).alloc (by omega) _)
  have s2 : w.heap.size + 2 ≤ b2.heap.size := by omega
  have HZ2 := Lib.hid z2
  clear z1 z2
  go_wp2_with fail
  rw [← hw1, ← hw2]
  clear hw1 hw2
  refine (HS.out _ HB0.out).mono ?_
  rintro e w4 ⟨rfl, hb⟩
  have y0 := cell_below hb x0_0 (by omega)
  have y1 := cell_below hb x0_1 (by omega)
  have y2 := cell_below hb x1_0 (by omega)
  have s4 := hb.size
  have HB4 := Lib.hid (HB0.out.trans (hb.mono (by omega)))
  clear hb
  go_wp2_with fail
  refine (where2 123 (enters_of Try.func123 (by kernel_rfl) rfl) _ _ rows.length _ w4 (by omega) (Lib.hid fun k wr hk hb => HC.out k wr w.heap.size (w.heap.size + 1) hk (HB4.out.trans (hb.mono (by omega))) (cell_below hb y2 (by omega)) (cell_below hb y0 (by omega)) (cell_below hb y1 (by omega)))).mono ?_
  rintro e w5 ⟨v, rfl, ho, hb⟩
  have HO := Lib.hid (ho.mono (by omega) (Nat.le_refl _) : OwnI w.heap.size w5.heap.size w5 v _)
  have HB5 := Lib.hid (HB4.out.trans (hb.mono (by omega)))
  clear ho hb
  go_wp2_with fail
  go_ret2
  exact ⟨v, rfl, HO.out, HB5.out⟩
end Go.Proofs.Ythohnnobahcdpaa.dec
