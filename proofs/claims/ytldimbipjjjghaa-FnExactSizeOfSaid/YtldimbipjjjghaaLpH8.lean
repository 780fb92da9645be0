/- Several texts in one. -/
import Derived.Outline
import Derived.ProofKit
import Derived.WalkLawsBesides
import Derived.WalkSpells
import Derived.Test.YtldimbipjjjghaaRows
import Derived.Test.YtldimbipjjjghaaLpH7
import Derived.Test.YtldimbipjjjghaaLpH0
namespace Go.Proofs.Ytldimbipjjjghaa.nums
open Go.RowKit own pp
set_option linter.unusedVariables false

/-- It returns a truth value, and the world is as it was. -/
def Says (ok : Bool) (w : World) (e : Ending) (w' : World) : Prop := e = .returned (.bool ok) ∧ w = w'
theorem says_ret {ok : Bool} {w : World} (e : Ending) (w' : World) (h : Says ok w e w') : RetB ok w e w' := by
  obtain ⟨h1, rfl⟩ := h
  exact ⟨h1, Below.refl _ _⟩

theorem in_any (x a b : Int) (w : World) (ok : Bool) (h : Hid ((decide (a ≤ x) && decide (x ≤ b)) = ok)) :
    Calls Try.prog 92 #[.int .i64 x, .int .i64 a, .int .i64 b] w (Says ok w) := by
  by_cases h1 : a ≤ x
  · by_cases h2 : x ≤ b
    · have e : ok = true := by rw [← h.out]; simp [h1, h2]
      clear h
      subst e
      go_enter Try.func92, Try.ntmps92
      go_wp2
      go_ret
      exact ⟨rfl, rfl⟩
    · have e : ok = false := by rw [← h.out]; simp [h2]
      clear h
      subst e
      go_enter Try.func92, Try.ntmps92
      go_wp2
      go_ret
      exact ⟨rfl, rfl⟩
  · have e : ok = false := by rw [← h.out]; simp [h1]
    clear h
    subst e
    go_enter Try.func92, Try.ntmps92
    go_wp2
    go_ret
    exact ⟨rfl, rfl⟩

set_option maxHeartbeats 400000 in
theorem spec_nums (a : Option Addr) (zs : List Int) (c : Nat) (m : Int) (w : World) (hr : ints.Reads .i64 w a zs) (hn : zs.length ≤ 1048576) (h0 : 0 ≤ m) (h1 : m ≤ 1000) (ok : Bool) (h : Hid (numsB m zs = ok)) :
    Calls Try.prog 150 #[.slice a zs.length c, .int .i64 m] w (Says ok w) := by
  go_enter Try.func150, Try.ntmps150
  go_wp2_with fail
  go_loop [5] (fun i => ∃ k : Nat, k ≤ zs.length ∧ i = .int .i64 k ∧ Hid (∀ j, j < k → inB m (zs.getD j 0) = true)) (fun i => zs.length - (intOf i).toNat)
  case atStart => exact ⟨0, Nat.zero_le _, rfl, fun j hj => by omega⟩
  case round =>
    obtain ⟨k, hk, rfl, hj⟩ := hrel
    by_cases hlt : k < zs.length
    · obtain ⟨b, off, rfl, hb, hc⟩ := hr.at hlt
      cases hx : inB m (zs.getD k 0)
      · have e : ok = false := by rw [← h.out]; exact all_false _ 0 zs k hlt hx
        have HX := Lib.hid hx
        clear h hx
        subst e
        unfold inB at HX
        generalize hs : zs.getD k 0 = s at *
        clear hs
        go_wp2_with fail
        refine (in_any _ _ _ _ false HX).mono ?_
        rintro e w' ⟨rfl, rfl⟩
        go_wp2_with fail
        go_ret
        exact ⟨rfl, rfl⟩
      · have HJ : Hid (∀ j, j < k + 1 → inB m (zs.getD j 0) = true) := fun j h => by
          by_cases e : j = k
          · rw [e]; exact hx
          · exact hj.out j (by omega)
        have HX := Lib.hid hx
        clear hx hj
        unfold inB at HX
        generalize hs : zs.getD k 0 = s at *
        clear hs
        go_wp2_with fail
        refine (in_any _ _ _ _ true HX).mono ?_
        rintro e w' ⟨rfl, rfl⟩
        go_wp2_with fail
        go_round
        case rel => exact ⟨k + 1, by omega, by go_num, HJ⟩
        case measure => simp [intOf]; omega
    · have : k = zs.length := by omega
      have e : ok = true := by rw [← h.out]; exact all_true _ 0 zs (fun j hj' => hj.out j (by omega))
      clear h hj
      subst this
      subst e
      go_wp2_with fail
      go_ret
      exact ⟨rfl, rfl⟩

theorem within_any (x m : Int) (w : World) (h0 : 0 ≤ m) (h1 : m ≤ 1000) (ok : Bool) (h : Hid (inB m x = ok)) :
    Calls Try.prog 125 #[.int .i64 x, .int .i64 m] w (Says ok w) := by
  unfold inB at h
  by_cases h1 : -m ≤ x
  · by_cases h2 : x ≤ m
    · have e : ok = true := by rw [← h.out]; simp [h1, h2]
      clear h
      subst e
      go_enter Try.func125, Try.ntmps125
      go_wp2
      go_ret
      exact ⟨rfl, rfl⟩
    · have e : ok = false := by rw [← h.out]; simp [h2]
      clear h
      subst e
      go_enter Try.func125, Try.ntmps125
      go_wp2
      go_ret
      exact ⟨rfl, rfl⟩
  · have e : ok = false := by rw [← h.out]; simp [h1]
    clear h
    subst e
    go_enter Try.func125, Try.ntmps125
    go_wp2
    go_ret
    exact ⟨rfl, rfl⟩
set_option maxHeartbeats 400000 in
theorem impl_nums (a : Option Addr) (zs : List Int) (c : Nat) (m : Int) (w : World) (hr : ints.Reads .i64 w a zs) (hn : zs.length ≤ 1048576) (h0 : 0 ≤ m) (h1 : m ≤ 1000) (ok : Bool) (h : Hid (numsB m zs = ok)) :
    Calls Try.prog 124 #[.slice a zs.length c, .int .i64 m] w (Says ok w) := by
  go_enter Try.func124, Try.ntmps124
  go_wp2_with fail
  go_loop [9] (fun i => ∃ k : Nat, k ≤ zs.length ∧ i = .int .i64 k ∧ Hid (∀ j, j < k → inB m (zs.getD j 0) = true)) (fun i => zs.length - (intOf i).toNat)
  case atStart => exact ⟨0, Nat.zero_le _, rfl, fun j hj => by omega⟩
  case round =>
    obtain ⟨k, hk, rfl, hj⟩ := hrel
    by_cases hlt : k < zs.length
    · obtain ⟨b, off, rfl, hb, hc⟩ := hr.at hlt
      cases hx : inB m (zs.getD k 0)
      · have e : ok = false := by rw [← h.out]; exact all_false _ 0 zs k hlt hx
        have HX := Lib.hid hx
        clear h hx
        subst e
        generalize hs : zs.getD k 0 = s at *
        clear hs
        go_wp2_with fail
        refine (within_any _ _ _ h0 h1 false HX).mono ?_
        rintro e w' ⟨rfl, rfl⟩
        go_wp2_with fail
        go_ret
        exact ⟨rfl, rfl⟩
      · have HJ : Hid (∀ j, j < k + 1 → inB m (zs.getD j 0) = true) := fun j h => by
          by_cases e : j = k
          · rw [e]; exact hx
          · exact hj.out j (by omega)
        have HX := Lib.hid hx
        clear hx hj
        generalize hs : zs.getD k 0 = s at *
        clear hs
        go_wp2_with fail
        refine (within_any _ _ _ h0 h1 true HX).mono ?_
        rintro e w' ⟨rfl, rfl⟩
        go_wp2_with fail
        go_round
        case rel => exact ⟨k + 1, by omega, by go_num, HJ⟩
        case measure => simp [intOf]; omega
    · have : k = zs.length := by omega
      have e : ok = true := by rw [← h.out]; exact all_true _ 0 zs (fun j hj' => hj.out j (by omega))
      clear h hj
      subst this
      subst e
      go_wp2_with fail
      go_ret
      exact ⟨rfl, rfl⟩

theorem spec_point (a : Option Addr) (zs : List Int) (c : Nat) (w : World) (hr : ints.Reads .i64 w a zs) (hn : zs.length ≤ 1048576) (ok : Bool) (h : Hid (pointB zs = ok)) :
    Calls Try.prog 136 #[.slice a zs.length c] w (Says ok w) := by
  cases hl : (decide ((1 : Int) ≤ zs.length) && decide ((zs.length : Int) ≤ 4))
  · have e : ok = false := by
      rw [← h.out]
      unfold pointB
      rw [Bool.and_eq_false_iff]
      left
      simp at hl ⊢
      intro h; have := hl (by omega); omega
    have HL := Lib.hid hl
    clear h hl
    subst e
    go_enter Try.func136, Try.ntmps136
    go_wp2_with fail
    refine (in_any _ _ _ _ false HL).mono ?_
    rintro e w' ⟨rfl, rfl⟩
    go_wp2_with fail
    go_ret
    exact ⟨rfl, rfl⟩
  · have e : Hid (numsB 9 zs = ok) := by
      rw [← h.out]
      simp at hl
      show numsB 9 zs = pointB zs
      simp [pointB, show 1 ≤ zs.length by omega, show zs.length ≤ 4 by omega]
    have HL := Lib.hid hl
    clear h hl
    go_enter Try.func136, Try.ntmps136
    go_wp2_with fail
    refine (in_any _ _ _ _ true HL).mono ?_
    rintro e w' ⟨rfl, rfl⟩
    go_wp2_with fail
    refine (spec_nums a zs c 9 _ hr hn (by omega) (by omega) ok e).mono ?_
    rintro e w' ⟨rfl, rfl⟩
    go_wp2_with fail
    go_ret
    exact ⟨rfl, rfl⟩
theorem impl_point (a : Option Addr) (zs : List Int) (c : Nat) (w : World) (hr : ints.Reads .i64 w a zs) (hn : zs.length ≤ 1048576) (ok : Bool) (h : Hid (pointB zs = ok)) :
    Calls Try.prog 137 #[.slice a zs.length c] w (Says ok w) := by
  by_cases h1 : 1 ≤ zs.length
  · by_cases h2 : zs.length ≤ 4
    · have e : Hid (numsB 9 zs = ok) := by
        rw [← h.out]
        show numsB 9 zs = pointB zs
        simp [pointB, h1, h2]
      clear h
      go_enter Try.func137, Try.ntmps137
      go_wp2_with fail
      refine (impl_nums a zs c 9 _ hr hn (by omega) (by omega) ok e).mono ?_
      rintro e w' ⟨rfl, rfl⟩
      go_wp2_with fail
      go_ret
      exact ⟨rfl, rfl⟩
    · have e : ok = false := by rw [← h.out]; simp [pointB, h2]
      clear h
      subst e
      go_enter Try.func137, Try.ntmps137
      go_wp2_with fail
      go_ret
      exact ⟨rfl, rfl⟩
  · have e : ok = false := by rw [← h.out]; simp [pointB, h1]
    clear h
    subst e
    have hz : zs = [] := List.length_eq_zero_iff.1 (by omega)
    subst hz
    go_enter Try.func137, Try.ntmps137
    go_wp2_with fail
    go_ret
    exact ⟨rfl, rfl⟩
end Go.Proofs.Ytldimbipjjjghaa.nums

namespace Go.Proofs.Ytldimbipjjjghaa.most
open Go.RowKit own pp nums
set_option linter.unusedVariables false

theorem most_any (x y : Int) (w : World) :
    Calls Try.prog 98 #[.int .i64 x, .int .i64 y] w fun e w' => e = .returned (.int .i64 (max x y)) ∧ w' = w := by
  by_cases h : y < x
  · have e : max x y = x := by omega
    rw [e]
    have g : decide (y < x) = true := by simp [h]
    clear e
    go_enter Try.func98, Try.ntmps98
    go_wp2
    go_ret
    exact ⟨rfl, rfl⟩
  · have e : max x y = y := by omega
    rw [e]
    have g : decide (y < x) = false := by simp; omega
    clear e
    go_enter Try.func98, Try.ntmps98
    go_wp2
    go_ret
    exact ⟨rfl, rfl⟩
theorem least_any (x y : Int) (w : World) :
    Calls Try.prog 149 #[.int .i64 x, .int .i64 y] w fun e w' => e = .returned (.int .i64 (min x y)) ∧ w' = w := by
  by_cases h : x < y
  · have e : min x y = x := by omega
    rw [e]
    have g : decide (x < y) = true := by simp [h]
    clear e
    go_enter Try.func149, Try.ntmps149
    go_wp2
    go_ret
    exact ⟨rfl, rfl⟩
  · have e : min x y = y := by omega
    rw [e]
    have g : decide (x < y) = false := by simp; omega
    clear e
    go_enter Try.func149, Try.ntmps149
    go_wp2
    go_ret
    exact ⟨rfl, rfl⟩
end Go.Proofs.Ytldimbipjjjghaa.most

namespace Go.Proofs.Ytldimbipjjjghaa.own
open Go.RowKit

def RetPBB (zs : List Int) (b : Int) (r ok : Bool) (w : World) (e : Ending) (w' : World) : Prop := ∃ v, e = .returned (.tuple #[.agg #[v, .int .i64 b], .bool r, .bool ok]) ∧ OwnI w.heap.size w'.heap.size w' v zs ∧ Below w.heap.size w w'
def RetIBB (zs : List Int) (r ok : Bool) (w : World) (e : Ending) (w' : World) : Prop := ∃ v, e = .returned (.tuple #[v, .bool r, .bool ok]) ∧ OwnI w.heap.size w'.heap.size w' v zs ∧ Below w.heap.size w w'
def RetINB (zs : List Int) (n : Int) (ok : Bool) (w : World) (e : Ending) (w' : World) : Prop := ∃ v, e = .returned (.tuple #[v, .int .i64 n, .bool ok]) ∧ OwnI w.heap.size w'.heap.size w' v zs ∧ Below w.heap.size w w'
def RetPIB (zs : List Int) (b : Int) (ys : List Int) (ok : Bool) (w : World) (e : Ending) (w' : World) : Prop := ∃ v u, e = .returned (.tuple #[.agg #[v, .int .i64 b], u, .bool ok]) ∧ OwnI w.heap.size w'.heap.size w' v zs ∧ OwnI w.heap.size w'.heap.size w' u ys ∧ (∀ g, v.ownBlock = some g → u.ownBlock ≠ some g) ∧ Below w.heap.size w w'
def RetNNNB (a b c : Int) (ok : Bool) (w : World) (e : Ending) (w' : World) : Prop := e = .returned (.tuple #[.int .i64 a, .int .i64 b, .int .i64 c, .bool ok]) ∧ Below w.heap.size w w'
end Go.Proofs.Ytldimbipjjjghaa.own

namespace Go.Proofs.Ytldimbipjjjghaa.own
open Go.RowKit

theorem cell_set {w : World} {b o : Nat} {x : Value} (h : w.cell? ⟨b, o, none⟩ = some x) {a : Addr} (hb : b ≠ a.block) (u : Value) : (w.setCell a u).cell? ⟨b, o, none⟩ = some x :=
  (World.cell?_of_block (Below.heap_setCell _ _ _ _ hb)).trans h
theorem fro_set {w : World} {b o : Nat} (h : w.frozen? ⟨b, o, none⟩ = false) {a : Addr} (hb : b ≠ a.block) (u : Value) : (w.setCell a u).frozen? ⟨b, o, none⟩ = false :=
  (World.frozen?_of_block (Below.heap_setCell _ _ _ _ hb)).trans h
theorem OwnS.set {lo hi : Nat} {w : World} {p l : Value} {rows : List (List Int)} {zs : List Int} (h : OwnS lo hi w p l rows zs) {a : Addr} (ha : a.block < lo) (u : Value) : OwnS lo hi (w.setCell a u) p l rows zs := by
  obtain ⟨cs, h1, h2, h3⟩ := h
  exact ⟨cs, ⟨ownsRow_block h1.1 (fun g hg => Below.heap_setCell _ _ _ _ (by have := h1.1.lt g hg; omega)), h1.2.1, h1.2.2.keep fun g k1 k2 k3 _ => Below.heap_setCell _ _ _ _ (by omega)⟩, h2.set ha u, h3⟩
end Go.Proofs.Ytldimbipjjjghaa.own

namespace Go.Proofs.Ytldimbipjjjghaa.own
open Go.RowKit
set_option linter.unusedVariables false

/-- v and l, the points and labels in the box B, are made since lo (not B), the points themselves behind B. -/
def Out (lo B hi : Nat) (w : World) (v l : Value) (cs : List Value) (rows : List (List Int)) (zs : List Int) : Prop :=
  w.ownsRow lo 23 1 v rows.length cs ∧ (∀ g, v.ownBlock = some g → g ≠ B ∧ g < hi) ∧ RowsOf (B + 1) hi w cs rows ∧
    w.ownsRow lo 3 1 l zs.length (zs.map (Value.int .i64)) ∧ (∀ g, l.ownBlock = some g → g ≠ B ∧ g < hi) ∧ (∀ g, l.ownBlock = some g → ¬ Blk cs rows.length g)

section
variable {lo B hi : Nat} {w W W3 : World} {v l : Value} {cs : List Value} {rows : List (List Int)} {zs : List Int}
theorem Out.below (h : Out lo B hi w v l cs rows zs) (hb : Below w.heap.size w W) : Out lo B hi W v l cs rows zs :=
  ⟨ownsRow_block h.1 fun g hg => hb.block g (h.1.lt g hg).2, h.2.1, h.2.2.1.below hb, ownsRow_block h.2.2.2.1 fun g hg => hb.block g (h.2.2.2.1.lt g hg).2, h.2.2.2.2⟩
theorem Out.set (h : Out lo B hi w v l cs rows zs) (o : Nat) (u : Value) : Out lo B hi (w.setCell ⟨B, o, none⟩ u) v l cs rows zs :=
  ⟨ownsRow_block h.1 fun g hg => Below.heap_setCell _ _ _ _ (h.2.1 g hg).1, h.2.1, h.2.2.1.keep fun g k1 _ _ _ => Below.heap_setCell _ _ _ _ (by simp; omega), ownsRow_block h.2.2.2.1 fun g hg => Below.heap_setCell _ _ _ _ (h.2.2.2.2.1 g hg).1, h.2.2.2.2⟩
theorem Out.toS (h : Out lo B hi w v l cs rows zs) (hl : lo ≤ B + 1) : OwnS lo hi w v l rows zs :=
  ⟨cs, ⟨h.1, fun g e => (h.2.1 g e).2, h.2.2.1.mono hl (Nat.le_refl _)⟩, ⟨h.2.2.2.1, fun g e => (h.2.2.2.2.1 g e).2⟩, h.2.2.2.2.2⟩

theorem grown_block {O : Obj} {row : Option Nat} (hg : (W.alloc O).grownBy W3 row) (g : Nat) (h1 : g < W.heap.size) (h2 : row ≠ some g) : W3.heap[g]? = W.heap[g]? := by
  rw [hg.block g (by simp; omega) (fun e => h2 e.symm), Below.heap_alloc W O g h1]

theorem Out.row {O : Obj} {c : Value} {r : List Int} {g' cap : Nat} (h : Out lo B hi W v l cs rows zs) (hc : OwnI hi W.heap.size W c r) (hhi : hi ≤ W.heap.size) (hB : B < hi) (hg : (W.alloc O).grownBy W3 v.ownBlock)
    (hown : W3.ownsRow lo 23 1 (.slice (some ⟨g', 0, none⟩) (rows.length + 1) cap) (rows.length + 1) (cs ++ [c])) (hat : v.ownBlock = some g' ∨ g' = W.heap.size + 1) (hlt : g' < W3.heap.size) :
    Out lo B W3.heap.size W3 (.slice (some ⟨g', 0, none⟩) (rows.length + 1) cap) l (cs ++ [c]) (rows ++ [r]) zs := by
  have hs : W.heap.size ≤ W3.heap.size := Nat.le_trans (by simp) hg.size
  obtain ⟨h1, h2, h3, h4, h5, h6⟩ := h
  have hsn := h3.snoc hc (by omega) hhi
  refine ⟨by simpa using hown, fun g e => ?_, ?_, ownsRow_block h4 fun g hg' => grown_block hg g (h4.lt g hg').2 (ownsRow_ne h4 h1 (by decide) hg'), fun g e => ⟨(h5 g e).1, by have := (h5 g e).2; omega⟩, fun g e hb => ?_⟩
  · obtain rfl : g' = g := by simpa [Value.ownBlock] using e
    refine ⟨fun e2 => ?_, hlt⟩
    rcases hat with ha | ha
    · exact (h2 _ ha).1 e2
    · omega
  · refine (hsn.keep fun g hl hh hgs hbl => grown_block hg g hgs (fun e => ?_)).mono (Nat.le_refl _) hs
    obtain ⟨i, hi', hb⟩ := hbl
    exact ownsRow_ne (hsn.2.1 i hi').1 h1 (by decide) hb e
  · obtain ⟨i, hi', hb2⟩ := hb
    by_cases e2 : i < rows.length
    · rw [getD_snoc_lt _ _ _ _ (by rw [h3.1]; exact e2)] at hb2
      exact h6 g e ⟨i, e2, hb2⟩
    · have : i = rows.length := by simp at hi'; omega
      rw [getD_snoc_eq _ _ _ _ (by rw [h3.1]; exact this)] at hb2
      have k1 := hc.lt hb2
      have k2 := (h5 g e).2
      omega

theorem Out.label {O : Obj} {z : Int} {g' cap : Nat} (h : Out lo B hi W v l cs rows zs) (hhi : hi ≤ W.heap.size) (hB : B < hi) (hg : (W.alloc O).grownBy W3 l.ownBlock)
    (hown : W3.ownsRow lo 3 1 (.slice (some ⟨g', 0, none⟩) (zs.length + 1) cap) (zs.length + 1) (zs.map (Value.int .i64) ++ [.int .i64 z])) (hat : l.ownBlock = some g' ∨ g' = W.heap.size + 1) (hlt : g' < W3.heap.size) :
    Out lo B W3.heap.size W3 v (.slice (some ⟨g', 0, none⟩) (zs.length + 1) cap) cs rows (zs ++ [z]) := by
  have hs : W.heap.size ≤ W3.heap.size := Nat.le_trans (by simp) hg.size
  obtain ⟨h1, h2, h3, h4, h5, h6⟩ := h
  refine ⟨ownsRow_block h1 fun g hg' => grown_block hg g (h1.lt g hg').2 (ownsRow_ne h1 h4 (by decide) hg'), fun g e => ⟨(h2 g e).1, by have := (h2 g e).2; omega⟩, (h3.keep fun g hl hh hgs hbl => grown_block hg g hgs (fun e => ?_)).mono (Nat.le_refl _) (by omega), by simpa using hown, fun g e => ?_, fun g e hb => ?_⟩
  · obtain ⟨i, hi', hb⟩ := hbl
    exact h6 g e ⟨i, hi', hb⟩
  · obtain rfl : g' = g := by simpa [Value.ownBlock] using e
    refine ⟨fun e2 => ?_, hlt⟩
    rcases hat with ha | ha
    · exact (h5 _ ha).1 e2
    · omega
  · obtain rfl : g' = g := by simpa [Value.ownBlock] using e
    rcases hat with ha | ha
    · exact h6 _ ha hb
    · obtain ⟨i, hi', hb2⟩ := hb
      have := (h3.2.1 i hi').lt hb2
      omega
end
end Go.Proofs.Ytldimbipjjjghaa.own
