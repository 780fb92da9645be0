/- The cursor from which the laws draw their arguments: what its methods hand back and what becomes of it. -/
import Derived.Test.YtocjedheimhfoaaRows
import Derived.Test.YtocjedheimhfoaaInts
import Derived.WalkSpells
import Derived.WalkLawsBesides
import Derived.Outline
import Derived.Deep.QuietTactic
import Derived.BigQuiet
namespace Go.Proofs.Ytocjedheimhfoaa.draw
open Go.RowKit ints
set_option linter.unusedVariables false

/-- Block g is a cursor over the code (a slice of n bytes), of which at most N choices have been read. -/
def Cur (w : World) (g : Nat) (a : Option Addr) (n c N : Nat) : Prop :=
  ∃ (k : Nat) (sd : Int), w.heap[g]? = some (.cells #[.slice a n c, .int .i64 k, .int .u64 sd] 44 (0, 0)) ∧ k ≤ N

theorem Cur.more {w : World} {g : Nat} {a : Option Addr} {n c N M : Nat} (h : Cur w g a n c N) (hNM : N ≤ M) : Cur w g a n c M := by
  obtain ⟨k, sd, h1, h2⟩ := h
  exact ⟨k, sd, h1, by omega⟩

theorem Cur.kept {w w' : World} {g : Nat} {a : Option Addr} {n c N : Nat} (h : Cur w g a n c N) (hb : w'.heap[g]? = w.heap[g]?) : Cur w' g a n c N := by
  obtain ⟨k, sd, h1, h2⟩ := h
  exact ⟨k, sd, hb.trans h1, h2⟩

theorem cell_at {w : World} {g : Nat} {cs : Array Value} {t : TypeId} (h : w.heap[g]? = some (.cells cs t (0, 0))) (o : Nat) : w.cell? ⟨g, o, none⟩ = cs[o]? := by
  simp [World.cell?, h]
theorem free_at {w : World} {g : Nat} {cs : Array Value} {t : TypeId} (h : w.heap[g]? = some (.cells cs t (0, 0))) (o : Nat) : w.frozen? ⟨g, o, none⟩ = false := by
  simp [World.frozen?, h]
theorem set_block {w : World} {g : Nat} {cs : Array Value} {t : TypeId} {f : Nat × Nat} (h : w.heap[g]? = some (.cells cs t f)) (o : Nat) (v : Value) : (w.setCell ⟨g, o, none⟩ v).heap[g]? = some (.cells (cs.setIfInBounds o v) t f) := by
  simp [World.setCell, Array.getElem?_modify, h]

/-- A choice: a number from 0 to 255; the cursor has moved on by one; nothing else has been written. -/
def NextPost (g : Nat) (a : Option Addr) (n c N : Nat) (w : World) (e : Ending) (w' : World) : Prop :=
  ∃ x : Int, e = .returned (.int .i64 x) ∧ 0 ≤ x ∧ x ≤ 255 ∧ Cur w' g a n c (N + 1) ∧ w.grownBy w' (some g)

theorem cur_end {w : World} {g : Nat} {a : Option Addr} {n c N k : Nat} {sd : Int} (h : w.heap[g]? = some (.cells #[.slice a n c, .int .i64 k, .int .u64 sd] 44 (0, 0))) (hk : k ≤ N) (m1 m2 : Nat) (s' : Int) :
    Cur ((((w.drewN m1).setCell ⟨g, 1, none⟩ (.int .i64 ((k : Int) + 1))).setCell ⟨g, 2, none⟩ (.int .u64 s')).drewN m2) g a n c (N + 1) ∧
      w.grownBy ((((w.drewN m1).setCell ⟨g, 1, none⟩ (.int .i64 ((k : Int) + 1))).setCell ⟨g, 2, none⟩ (.int .u64 s')).drewN m2) (some g) := by
  have h1 : (w.drewN m1).heap[g]? = some (.cells #[.slice a n c, .int .i64 k, .int .u64 sd] 44 (0, 0)) := h
  have h2 := set_block h1 1 (.int .i64 ((k : Int) + 1))
  have h3 := set_block h2 2 (.int .u64 s')
  refine ⟨⟨k + 1, s', ?_, by omega⟩, grown_drewN (grown_set (grown_set (grown_drewN (World.grownBy.refl w _) m1) _) _) m2⟩
  show (((w.drewN m1).setCell ⟨g, 1, none⟩ (.int .i64 ((k : Int) + 1))).setCell ⟨g, 2, none⟩ (.int .u64 s')).heap[g]? = _
  rw [h3]
  simp

theorem and255 (y : Int) : 0 ≤ wrap64 (bits .and .u64 (IntKind.u64.wrap y / 1099511627776) 255) ∧ wrap64 (bits .and .u64 (IntKind.u64.wrap y / 1099511627776) 255) ≤ 255 := by
  have hy := IntKind.wrap_u64 y
  generalize IntKind.u64.wrap y = z at *
  have h0 : 0 ≤ z / 1099511627776 := by omega
  have h1 : z / 1099511627776 < 18446744073709551616 := by omega
  rw [u64_and _ 255 h0 h1 (by omega) (by omega)]
  have := Nat.and_le_right (n := (z / 1099511627776).toNat) (m := (255 : Int).toNat)
  rw [IntWalk.wrap64_in _ ⟨by omega, by omega⟩]
  omega

set_option maxHeartbeats 1000000 in
theorem next_any (g : Nat) (a : Option Addr) (zs : List Int) (c N : Nat) (w : World) (hz : Hid (∀ i, i < zs.length → 0 ≤ zs.getD i 0 ∧ zs.getD i 0 ≤ 255)) (hr : Reads .u8 w a zs) (hl : Low g a zs.length) (hn : zs.length ≤ 1048576) (hN : N ≤ 1048576)
    (hc : Cur w g a zs.length c N) :
    Calls Try.prog 37 #[.pointer (some ⟨g, 0, none⟩)] w (NextPost g a zs.length c N w) := by
  obtain ⟨k, sd, hh, hk⟩ := hc
  have hc0 := cell_at hh 0
  have hc1 := cell_at hh 1
  have hc2 := cell_at hh 2
  have hf := fun o => free_at hh o
  have HH := Lib.hid hh
  clear hh
  simp at hc0 hc1 hc2
  by_cases hlt : k < zs.length
  · obtain ⟨b, off, rfl, hb, hcell⟩ := hr.at hlt
    have hz1 := hz.out k hlt
    generalize hq : zs.getD k 0 = x at *
    clear hq
    obtain ⟨hx0, hx1⟩ := hz1
    go_enter Try.func37, Try.ntmps37
    go_wp2
    go_quiet (fail)
    go_wp2
    go_quiet (fail)
    go_wp2
    go_quiet (fail)
    go_wp2
    go_ret
    obtain ⟨e1, e2⟩ := cur_end HH.out hk _ _ _
    exact ⟨x, rfl, hx0, hx1, e1, e2⟩
  · go_enter Try.func37, Try.ntmps37
    go_wp2
    go_quiet (fail)
    go_wp2
    go_quiet (fail)
    go_wp2
    go_ret
    obtain ⟨e1, e2⟩ := cur_end HH.out hk _ _ _
    exact ⟨_, rfl, (and255 _).1, (and255 _).2, e1, e2⟩

/-- A cursor over a code of bytes, and the code below it. -/
structure Src (w : World) (g : Nat) (a : Option Addr) (zs : List Int) (c N : Nat) : Prop where
  bytes : ∀ i, i < zs.length → 0 ≤ zs.getD i 0 ∧ zs.getD i 0 ≤ 255
  reads : Reads .u8 w a zs
  low : Low g a zs.length
  len : zs.length ≤ 1048576
  cur : Cur w g a zs.length c N

theorem Cur.lt {w : World} {g : Nat} {a : Option Addr} {n c N : Nat} (h : Cur w g a n c N) : g < w.heap.size := by
  obtain ⟨k, sd, h1, _⟩ := h
  exact (Array.getElem?_eq_some_iff.1 h1).1

theorem Src.step {w w' : World} {g : Nat} {a : Option Addr} {zs : List Int} {c N M : Nat} (h : Src w g a zs c N) (hc : Cur w' g a zs.length c M) (hg : w.grownBy w' (some g)) : Src w' g a zs c M :=
  ⟨h.bytes, h.reads.low_below h.low (below_of_grown hg g (Nat.le_refl _) (Nat.le_of_lt h.cur.lt)), h.low, h.len, hc⟩

theorem Src.more {w : World} {g : Nat} {a : Option Addr} {zs : List Int} {c N M : Nat} (h : Src w g a zs c N) (hNM : N ≤ M) : Src w g a zs c M := ⟨h.bytes, h.reads, h.low, h.len, h.cur.more hNM⟩

/-- What is written elsewhere, in new blocks or in blocks behind the cursor's, does not touch it. -/
theorem Src.below {w w' : World} {g : Nat} {a : Option Addr} {zs : List Int} {c N : Nat} (h : Src w g a zs c N) (hb : Below (g + 1) w w') : Src w' g a zs c N :=
  ⟨h.bytes, h.reads.low_below h.low (hb.mono (Nat.le_succ _)), h.low, h.len, h.cur.kept (hb.block g (Nat.lt_succ_self _))⟩

/-- What a choice leaves: a cursor again, nothing else written. -/
def Left (g : Nat) (a : Option Addr) (zs : List Int) (c N : Nat) (w w' : World) : Prop := Src w' g a zs c N ∧ w.grownBy w' (some g)

theorem Left.trans {g : Nat} {a : Option Addr} {zs : List Int} {c N M : Nat} {w w1 w2 : World} (h : Left g a zs c N w w1) (k : Left g a zs c M w1 w2) : Left g a zs c M w w2 := ⟨k.1, World.grownBy.trans h.2 k.2⟩

theorem next_src (g : Nat) (a : Option Addr) (zs : List Int) (c N : Nat) (w : World) (h : Src w g a zs c N) (hN : N ≤ 1048576) :
    Calls Try.prog 37 #[.pointer (some ⟨g, 0, none⟩)] w fun e w' => ∃ x : Int, e = .returned (.int .i64 x) ∧ 0 ≤ x ∧ x ≤ 255 ∧ Left g a zs c (N + 1) w w' :=
  (next_any g a zs c N w (Lib.hid h.bytes) h.reads h.low h.len hN h.cur).mono fun e w' ⟨x, he, h0, h1, hc, hg⟩ => ⟨x, he, h0, h1, h.step hc hg, hg⟩

set_option maxHeartbeats 1000000 in
/-- A number from 0 to m - 1. -/
theorem pick_src (m : Int) (g : Nat) (a : Option Addr) (zs : List Int) (c N : Nat) (w : World) (hm : 1 ≤ m) (hm2 : m ≤ 65536) (h : Src w g a zs c N) (hN : N ≤ 1048000) :
    Calls Try.prog 28 #[.pointer (some ⟨g, 0, none⟩), .int .i64 m] w fun e w' => ∃ x : Int, e = .returned (.int .i64 x) ∧ 0 ≤ x ∧ x < m ∧ Left g a zs c (N + 2) w w' := by
  by_cases h1 : m ≤ 1
  · go_enter Try.func28, Try.ntmps28
    go_wp2_with fail
    go_ret
    exact ⟨0, rfl, by omega, by omega, h.more (by omega), World.grownBy.refl _ _⟩
  · by_cases h2 : 200 < m
    · go_enter Try.func28, Try.ntmps28
      go_wp2_with fail
      refine (next_src g a zs c N w h (by omega)).mono ?_
      rintro e w1 ⟨x, rfl, hx0, hx1, hL1⟩
      go_wp2_with fail
      refine (next_src g a zs c (N + 1) w1 hL1.1 (by omega)).mono ?_
      rintro e w2 ⟨y, rfl, hy0, hy1, hL2⟩
      go_wp2_with fail
      go_ret
      exact ⟨(x * 256 + y) % m, rfl, Int.emod_nonneg _ (by omega), Int.emod_lt_of_pos _ (by omega), hL1.trans hL2⟩
    · go_enter Try.func28, Try.ntmps28
      go_wp2_with fail
      refine (next_src g a zs c N w h (by omega)).mono ?_
      rintro e w1 ⟨x, rfl, hx0, hx1, hL1⟩
      go_wp2_with fail
      go_ret
      exact ⟨x % m, rfl, Int.emod_nonneg _ (by omega), Int.emod_lt_of_pos _ (by omega), hL1.1.more (by omega), hL1.2⟩

theorem one_src (m : Int) (g : Nat) (a : Option Addr) (zs : List Int) (c N : Nat) (w : World) (hm : 1 ≤ m) (hm2 : m ≤ 65536) (h : Src w g a zs c N) (hN : N ≤ 1048000) :
    Calls Try.prog 29 #[.pointer (some ⟨g, 0, none⟩), .int .i64 m] w fun e w' => ∃ x : Bool, e = .returned (.bool x) ∧ Left g a zs c (N + 2) w w' := by
  go_enter Try.func29, Try.ntmps29
  go_wp2_with fail
  refine (pick_src m g a zs c N w hm hm2 h hN).mono ?_
  rintro e w1 ⟨x, rfl, hx0, hx1, hL1⟩
  go_wp2_with fail
  go_ret
  exact ⟨_, rfl, hL1⟩


theorem of_src (l : List ByteArray) (b n T : Nat) (g : Nat) (a : Option Addr) (zs : List Int) (c N : Nat) (w : World) (hbl : w.heap[b]? = some (.cells (l.map Value.string).toArray T (0, 0))) (hbg : b ≠ g) (hn : n = l.length) (hl1 : 1 ≤ l.length) (hl2 : l.length ≤ 65536) (h : Src w g a zs c N) (hN : N ≤ 1048000) :
    Calls Try.prog 26 #[.pointer (some ⟨g, 0, none⟩), .slice (some ⟨b, 0, none⟩) n n] w fun e w' => ∃ i, i < l.length ∧ e = .returned (.string (l.getD i ByteArray.empty)) ∧ Left g a zs c (N + 2) w w' := by
  subst hn
  have HB := Lib.hid hbl
  have hsz : b < w.heap.size := (Array.getElem?_eq_some_iff.1 hbl).1
  clear hbl
  go_enter Try.func26, Try.ntmps26
  go_wp2_with fail
  refine (pick_src l.length g a zs c N w (by omega) (by omega) h hN).mono ?_
  rintro e w1 ⟨x, rfl, hx0, hx1, hL1⟩
  obtain ⟨i, rfl⟩ := Int.eq_ofNat_of_zero_le hx0
  have hi : i < l.length := by omega
  have hcell : w1.cell? ⟨b, i, none⟩ = some (.string (l.getD i ByteArray.empty)) := by
    rw [cell_at ((hL1.2.block b hsz (fun e => hbg (by simpa using e))).trans HB.out) i]
    simp [List.getElem?_map, List.getElem?_eq_getElem hi]
  generalize hq : l.getD i ByteArray.empty = q at *
  have HQ := Lib.hid hq
  clear hq
  go_wp2_with fail
  go_ret
  exact ⟨i, hi, by rw [HQ.out]; rfl, hL1⟩
end Go.Proofs.Ytocjedheimhfoaa.draw
