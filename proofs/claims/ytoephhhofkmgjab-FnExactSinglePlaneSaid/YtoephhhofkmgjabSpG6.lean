/- Several texts in one. -/
import Derived.BigQuiet
import Derived.Deep.QuietTactic
import Derived.Maps.AppendAt
import Derived.Outline
import Derived.ProofKit
import Derived.WalkLawsBesides
import Derived.WalkSpells
import Derived.Test.YtoephhhofkmgjabRows
import Derived.Test.YtoephhhofkmgjabSpG4
import Derived.Test.YtoephhhofkmgjabSpG0
namespace Go.Proofs.Ytoephhhofkmgjab.intfns
open Go.RowKit own
set_option linter.unusedVariables false

theorem sz_yes (a : Option Addr) (n c : Nat) (left : Int) (w : World) (h0 : (n : Int) ≤ left) (h1 : left ≤ 1048576) :
    Calls Try.prog 58 #[.slice a n c, .int .i64 left] w fun e w' => e = .returned (.int .i64 (left - n)) ∧ w = w' := by
  go_enter Try.func58, Try.ntmps58
  go_wp2
  go_ret
  exact ⟨rfl, rfl⟩

theorem sz_no (a : Option Addr) (n c : Nat) (left : Int) (w : World) (h0 : left < (n : Int)) (h1 : left ≤ 1048576) (h2 : 0 ≤ left) (hn : n ≤ 9223372036854775807) :
    Calls Try.prog 58 #[.slice a n c, .int .i64 left] w fun e w' => e = .returned (.int .i64 (-1)) ∧ w = w' := by
  go_enter Try.func58, Try.ntmps58
  go_wp2
  go_ret
  exact ⟨rfl, rfl⟩

theorem infoInt : (Try.prog.info? 3).map (fun i => (i.zero, i.size, i.bytes)) = some (some (.int .i64 0), 1, 8) := by kernel_rfl

/-- The first k of the numbers, then zeros. -/
def filled (zs : List Int) (k : Nat) : List Value := (zs.take k).map (Value.int .i64) ++ List.replicate (zs.length - k) (.int .i64 0)

theorem filled_zero (zs : List Int) : filled zs 0 = List.replicate zs.length (.int .i64 0) := by simp [filled]
theorem filled_all (zs : List Int) : filled zs zs.length = zs.map (Value.int .i64) := by simp [filled]

theorem filled_succ (zs : List Int) (k : Nat) (h : k < zs.length) : (filled zs k).set k (.int .i64 (zs.getD k 0)) = filled zs (k + 1) := by
  unfold filled
  rw [List.set_append, if_neg (by simp; omega)]
  have e : zs.length - k = (zs.length - (k + 1)) + 1 := by omega
  rw [e, List.replicate_succ, show k - ((zs.take k).map (Value.int .i64)).length = 0 by simp; omega, List.set_cons_zero, List.take_succ_eq_append_getElem h, List.map_append, List.append_assoc, List.getD_eq_getElem?_getD, List.getElem?_eq_getElem h]
  rfl

theorem filled_at (zs : List Int) (k : Nat) (h : k < zs.length) : (filled zs k)[k]? = some (.int .i64 0) := by
  unfold filled
  rw [List.getElem?_append_right (by simp; omega), List.getElem?_replicate, if_pos (by simp; omega)]

set_option maxHeartbeats 800000 in
theorem to_row (a : Option Addr) (zs : List Int) (c : Nat) (w : World) (hr : ints.Reads .i64 w a zs) (hn : zs.length ≤ 1048576) :
    Calls Try.prog 9 #[.slice a zs.length c] w fun e w' => e = .returned (.slice (some ⟨w.heap.size, 0, none⟩) zs.length zs.length) ∧
      w'.ownsRow w.heap.size 3 1 (.slice (some ⟨w.heap.size, 0, none⟩) zs.length zs.length) zs.length (zs.map (Value.int .i64)) ∧ Below w.heap.size w w' := by
  obtain ⟨i0, hi, hz0, hz1, hz2⟩ := info_parts infoInt
  go_enter Try.func9, Try.ntmps9
  go_wp2_with (refine wpList_make_full _ rfl _ _ 22 rfl w.heap.size 3 i0 (.int .i64 0) 1 Try.underlying22 hi hz0 hz1 .i64 .i64 _ _ zs.length rfl rfl rfl rfl (by rw [hz2]; omega) (by unfold maxLen; omega) (Nat.le_refl _) ?_; intro w1 hown1 hgrow1; refine Hid.out ?_)
  refine Lib.hid ?_
  have hb1 : Below w.heap.size w w1 := (Below.refl _ _).grown hgrow1 (Nat.le_refl _) (by simp)
  rw [show (Value.int .i64 0).cells = #[Value.int .i64 0] from rfl, Nat.mul_one, toList_madeCells_one, ← filled_zero] at hown1
  go_wp2
  go_loopw [4] (fun i wr => ∃ k : Nat, k ≤ zs.length ∧ i = .int .i64 k ∧ wr.ownsRow w.heap.size 3 1 (.slice (some ⟨w.heap.size, 0, none⟩) zs.length zs.length) zs.length (filled zs k) ∧ Below w.heap.size w wr) (fun i _ => zs.length - (intOf i).toNat)
  case atStart => exact ⟨0, Nat.zero_le _, rfl, hown1, hb1⟩
  case round =>
    obtain ⟨k, hk, rfl, hown, hbel⟩ := hrel
    clear hown1 hgrow1 hb1
    by_cases hlt : k < zs.length
    · obtain ⟨b, off, rfl, hb, hc⟩ := (hr.below hbel).at hlt
      have hcell : wr.cell? ⟨w.heap.size, k, none⟩ = some (.int .i64 0) := by rw [hown.cellAt k (by omega), filled_at zs k hlt]
      have hfro := hown.frozenAt k
      have hst := hown.stored k (.int .i64 (zs.getD k 0))
      rw [filled_succ zs k hlt] at hst
      have HS := Lib.hid hst
      have HB := Lib.hid hbel
      clear hst hown hbel
      generalize hs : zs.getD k 0 = s at *
      clear hs
      go_wp2
      go_roundw
      case rel => exact ⟨k + 1, by omega, by go_num, HS.out.1, HB.out.setCell (Nat.le_refl _) _⟩
      case measure => simp [intOf]; omega
    · have : k = zs.length := by omega
      subst this
      rw [filled_all] at hown
      have HO := Lib.hid hown
      have HB := Lib.hid hbel
      clear hown hbel
      go_wp2
      go_ret
      exact ⟨rfl, HO.out, HB.out⟩

/-- What a copy is: a slice of the call's own. -/
def Made (zs : List Int) (w : World) (e : Ending) (w' : World) : Prop :=
  ∃ v, e = .returned v ∧ OwnI w.heap.size w'.heap.size w' v zs ∧ Below w.heap.size w w'

theorem to_any (a : Option Addr) (zs : List Int) (c : Nat) (w : World) (hr : ints.Reads .i64 w a zs) (hn : zs.length ≤ 1048576) :
    Calls Try.prog 9 #[.slice a zs.length c] w (Made zs w) :=
  (to_row a zs c w hr hn).mono fun _ _ ⟨he, ho, hb⟩ => ⟨_, he, OwnI.of ho, hb⟩

set_option maxHeartbeats 800000 in
theorem eq_same (a a' : Option Addr) (zs : List Int) (c c' : Nat) (w : World) (hr : ints.Reads .i64 w a zs) (hr' : ints.Reads .i64 w a' zs) (hn : zs.length ≤ 9223372036854775807) :
    Calls Try.prog 11 #[.slice a zs.length c, .slice a' zs.length c'] w fun e w' => e = .returned (.bool true) ∧ Below w.heap.size w w' := by
  go_enter Try.func11, Try.ntmps11
  go_wp2
  go_loopw [5] (fun i wr => ∃ k : Nat, k ≤ zs.length ∧ i = .int .i64 k ∧ Below w.heap.size w wr) (fun i _ => zs.length - (intOf i).toNat)
  case atStart => exact ⟨0, Nat.zero_le _, rfl, Below.refl _ _⟩
  case round =>
    obtain ⟨k, hk, rfl, hbel⟩ := hrel
    by_cases hlt : k < zs.length
    · obtain ⟨b, off, rfl, hb, hc⟩ := (hr.below hbel).at hlt
      obtain ⟨b', off', rfl, hb', hc'⟩ := (hr'.below hbel).at hlt
      have HB := Lib.hid hbel
      clear hbel
      generalize hs : zs.getD k 0 = s at *
      clear hs
      go_wp2
      go_quiet (fail)
      go_wp2
      go_roundw
      case rel => exact ⟨k + 1, by omega, by go_num, ints.below_drewN HB.out _⟩
      case measure => simp [intOf]; omega
    · have HB := Lib.hid hbel
      clear hbel
      go_wp2
      go_ret
      exact ⟨rfl, HB.out⟩

/-- The marks from a number on. -/
def marks (K n : Nat) : List Int := (List.range n).map fun i => ((K + i : Nat) : Int)
theorem marks_length (K n : Nat) : (marks K n).length = n := by simp [marks]
theorem marks_getD (K n k : Nat) (h : k < n) : (marks K n).getD k 0 = ((K + k : Nat) : Int) := by
  rw [List.getD_eq_getElem?_getD]; simp [marks, h]

/-- Some marks, then what was there. -/
def part (K k : Nat) (xs : List Value) : List Value := ((marks K k).map (Value.int .i64)) ++ xs.drop k

theorem part_succ (K n k : Nat) (xs : List Value) (hx : xs.length = n) (hk : k < n) : (part K k xs).set k (.int .i64 ((K + k : Nat) : Int)) = part K (k + 1) xs := by
  unfold part
  rw [List.set_append, if_neg (by simp [marks_length]), show marks K (k + 1) = marks K k ++ [((K + k : Nat) : Int)] by simp [marks, List.range_succ], List.map_append, List.append_assoc]
  congr 1
  rw [List.length_map, marks_length, Nat.sub_self, List.drop_eq_getElem_cons (by omega)]
  rfl

theorem part_at (K n k : Nat) (xs : List Value) (hx : xs.length = n) (hk : k < n) : (part K k xs)[k]? = xs[k]? := by
  unfold part
  rw [List.getElem?_append_right (by simp [marks_length]), List.length_map, marks_length, Nat.sub_self, List.getElem?_drop, Nat.add_zero]

set_option maxHeartbeats 1000000 in
theorem mark_row (base g cap : Nat) (zs : List Int) (K : Nat) (w : World) (hown : w.ownsRow base 3 1 (.slice (some ⟨g, 0, none⟩) zs.length cap) zs.length (zs.map (Value.int .i64))) (h2 : K + zs.length ≤ 4611686018427387904) :
    Calls Try.prog 15 #[.slice (some ⟨g, 0, none⟩) zs.length cap, .int .i64 K] w fun e w' => e = .returned (.int .i64 (K + zs.length : Nat)) ∧
      w'.ownsRow base 3 1 (.slice (some ⟨g, 0, none⟩) zs.length cap) zs.length ((marks K zs.length).map (Value.int .i64)) ∧ w.grownBy w' (some g) := by
  obtain ⟨xs, hxs⟩ : ∃ xs, xs = zs.map (Value.int .i64) := ⟨_, rfl⟩
  have hxl : xs.length = zs.length := by rw [hxs]; simp
  obtain ⟨n, hn⟩ : ∃ n, zs.length = n := ⟨_, rfl⟩
  rw [← hxs] at hown
  have HStr := Lib.hid (show ∀ k, k < n → ∃ s : Int, xs[k]? = some (.int .i64 s) from fun k hk => by
    rw [hxs, List.getElem?_map, List.getElem?_eq_getElem (by omega)]
    exact ⟨_, rfl⟩)
  clear hxs
  rw [hn] at hown hxl h2 ⊢
  clear hn
  go_enter Try.func15, Try.ntmps15
  go_wp2_with fail
  go_loopw [1, 5] (fun c i wr => ∃ k : Nat, k ≤ n ∧ i = .int .i64 k ∧ c = .int .i64 (K + k : Nat) ∧ wr.ownsRow base 3 1 (.slice (some ⟨g, 0, none⟩) n cap) n (part K k xs) ∧ w.grownBy wr (some g)) (fun _ i _ => n - (intOf i).toNat)
  case atStart => exact ⟨0, Nat.zero_le _, rfl, rfl, hown, World.grownBy.refl _ _⟩
  case round =>
    obtain ⟨k, hk, rfl, rfl, ho, hg⟩ := hrel
    have HG := Lib.hid hg
    clear hg hown
    by_cases hlt : k < n
    · obtain ⟨s0, hs0⟩ := HStr.out k hlt
      have hcell : wr.cell? ⟨g, k, none⟩ = some (.int .i64 s0) := by rw [ho.cellAt k (by omega), part_at K n k xs hxl hlt, hs0]
      have hfro := ho.frozenAt k
      have hst := ho.stored k (.int .i64 ((K + k : Nat) : Int))
      rw [part_succ K n k xs hxl hlt] at hst
      have HST := Lib.hid hst
      clear hst ho hs0
      go_wp2_with fail
      go_roundw
      case rel => exact ⟨k + 1, by omega, by go_num, by go_num, by simpa using HST.out.1, by simpa using World.grownBy.trans HG.out HST.out.2⟩
      case measure => simp [intOf]; omega
    · obtain rfl : k = n := by omega
      have HO := Lib.hid (show wr.ownsRow base 3 1 (.slice (some ⟨g, 0, none⟩) k cap) k ((marks K k).map (Value.int .i64)) by
        have e : part K k xs = (marks K k).map (Value.int .i64) := by unfold part; rw [List.drop_of_length_le (by omega)]; simp
        rw [← e]; exact ho)
      clear ho
      go_wp2_with fail
      go_ret
      exact ⟨rfl, HO.out, HG.out⟩

/-- What marking a slice of the call's own leaves. -/
def Marked (lo hi : Nat) (v : Value) (n K : Nat) (w : World) (e : Ending) (w' : World) : Prop :=
  e = .returned (.int .i64 (K + n : Nat)) ∧ OwnI lo hi w' v (marks K n) ∧ (∀ row, v.ownBlock = row → w.grownBy w' row)

theorem mark_any (lo hi : Nat) (a : Option Addr) (c : Nat) (zs : List Int) (K : Nat) (w : World) (h : OwnI lo hi w (.slice a zs.length c) zs) (h2 : K + zs.length ≤ 4611686018427387904) :
    Calls Try.prog 15 #[.slice a zs.length c, .int .i64 K] w (Marked lo hi (.slice a zs.length c) zs.length K w) := by
  have hc := h
  rcases h.1.2 with ⟨hv, h0⟩ | ⟨g, cap, cur, hv, hl, hh, hr⟩
  · have hz : zs = [] := List.length_eq_zero_iff.1 h0
    subst hz
    simp only [List.length_nil] at hv ⊢
    cases hv
    go_enter Try.func15, Try.ntmps15
    go_wp2_with fail
    refine wp_loop_rounds 1 ?_
    rw [rounds_succ]
    go_wp2_with fail
    go_ret
    exact ⟨by simp, OwnI.nil _ _ _, fun row _ => World.grownBy.refl _ _⟩
  · cases hv
    refine (mark_row lo g c zs K w h.1 h2).mono ?_
    rintro e w' ⟨rfl, ho, hg⟩
    refine ⟨rfl, ⟨by rw [marks_length]; exact ho, hc.2⟩, fun row e => ?_⟩
    subst e
    exact hg

set_option maxHeartbeats 1000000 in
theorem held_any (a : Option Addr) (c n K : Nat) (w : World) (hr : ints.Reads .i64 w a (marks K n)) (h2 : K + n ≤ 4611686018427387904) :
    Calls Try.prog 45 #[.slice a n c, .int .i64 K] w fun e w' => e = .returned (.int .i64 (K + n : Nat)) ∧ Below w.heap.size w w' := by
  go_enter Try.func45, Try.ntmps45
  go_wp2_with fail
  go_loopw [1, 5] (fun q i wr => ∃ k : Nat, k ≤ n ∧ i = .int .i64 k ∧ q = .int .i64 (K + k : Nat) ∧ Below w.heap.size w wr) (fun _ i _ => n - (intOf i).toNat)
  case atStart => exact ⟨0, Nat.zero_le _, rfl, rfl, Below.refl _ _⟩
  case round =>
    obtain ⟨k, hk, rfl, rfl, hb⟩ := hrel
    have HB := Lib.hid hb
    by_cases hlt : k < n
    · obtain ⟨g, off, rfl, hg, hcell⟩ := (hr.below hb).at (k := k) (by rw [marks_length]; exact hlt)
      rw [marks_getD K n k hlt] at hcell
      clear hb
      go_wp2_with fail
      go_roundw
      case rel => exact ⟨k + 1, by omega, by go_num, by go_num, HB.out⟩
      case measure => simp [intOf]; omega
    · obtain rfl : k = n := by omega
      clear hb
      go_wp2_with fail
      go_ret
      exact ⟨rfl, HB.out⟩
end Go.Proofs.Ytoephhhofkmgjab.intfns

namespace Go.Proofs.Ytoephhhofkmgjab.own
open Go.RowKit
set_option linter.unusedVariables false

/-- Slices, each in a block of its own, read as these lists. -/
def RowsOf (lo hi : Nat) (w : World) (cs : List Value) (rows : List (List Int)) : Prop :=
  cs.length = rows.length ∧ (∀ i, i < rows.length → OwnI lo hi w (cs.getD i undef) (rows.getD i [])) ∧
    (∀ i j, i < j → j < rows.length → ∀ g, (cs.getD i undef).ownBlock = some g → (cs.getD j undef).ownBlock ≠ some g)

/-- A slice of such slices: its own block, and the rows in theirs. -/
def OwnC (lo hi : Nat) (w : World) (v : Value) (rows : List (List Int)) (cs : List Value) : Prop :=
  w.ownsRow lo 22 1 v rows.length cs ∧ (∀ g, v.ownBlock = some g → g < hi) ∧ RowsOf lo hi w cs rows
def OwnG (lo hi : Nat) (w : World) (v : Value) (rows : List (List Int)) : Prop := ∃ cs : List Value, OwnC lo hi w v rows cs

/-- The blocks of the rows. -/
def Blk (cs : List Value) (n : Nat) (k : Nat) : Prop := ∃ i, i < n ∧ (cs.getD i undef).ownBlock = some k

theorem RowsOf.nil (lo hi : Nat) (w : World) : RowsOf lo hi w [] [] := ⟨rfl, fun i hi => by simp at hi, fun i j _ hj => by simp at hj⟩

theorem getD_snoc_lt {α : Type} (l : List α) (x d : α) (i : Nat) (h : i < l.length) : (l ++ [x]).getD i d = l.getD i d := by
  rw [List.getD_eq_getElem?_getD, List.getD_eq_getElem?_getD, List.getElem?_append_left h]
theorem getD_snoc_eq {α : Type} (l : List α) (x d : α) (i : Nat) (h : i = l.length) : (l ++ [x]).getD i d = x := by
  subst h
  rw [List.getD_eq_getElem?_getD, List.getElem?_append_right (Nat.le_refl _)]; simp

theorem RowsOf.snoc {lo hi hi' : Nat} {w : World} {cs : List Value} {rows : List (List Int)} {c : Value} {r : List Int} (h : RowsOf lo hi w cs rows) (hc : OwnI hi hi' w c r) (h1 : lo ≤ hi) (h2 : hi ≤ hi') : RowsOf lo hi' w (cs ++ [c]) (rows ++ [r]) := by
  obtain ⟨hl, ho, hd⟩ := h
  refine ⟨by simp [hl], fun i hi' => ?_, fun i j hij hj g hg => ?_⟩
  · by_cases e : i < rows.length
    · rw [getD_snoc_lt _ _ _ _ e, getD_snoc_lt _ _ _ _ (by omega)]
      exact (ho i e).mono (Nat.le_refl _) h2
    · have : i = rows.length := by simp at hi'; omega
      rw [getD_snoc_eq _ _ _ _ this, getD_snoc_eq _ _ _ _ (by omega)]
      exact hc.mono h1 (Nat.le_refl _)
  · by_cases e : j < rows.length
    · rw [getD_snoc_lt _ _ _ _ (by omega)] at hg ⊢
      exact hd i j hij e g hg
    · have : j = rows.length := by simp at hj; omega
      rw [getD_snoc_lt _ _ _ _ (by omega)] at hg
      rw [getD_snoc_eq _ _ _ _ (by omega)]
      intro hg'
      have h3 := (ho i (by omega)).2 g hg
      have h4 := (hc.lt hg').1
      omega

theorem RowsOf.keep {lo hi : Nat} {w w' : World} {cs : List Value} {rows : List (List Int)} (h : RowsOf lo hi w cs rows) (hb : ∀ g, lo ≤ g → g < hi → g < w.heap.size → (∃ i, i < rows.length ∧ (cs.getD i undef).ownBlock = some g) → w'.heap[g]? = w.heap[g]?) : RowsOf lo hi w' cs rows :=
  ⟨h.1, fun i hi => (h.2.1 i hi).block fun g hg => by have := (h.2.1 i hi).lt hg; exact hb g this.1 this.2.1 this.2.2 ⟨i, hi, hg⟩, h.2.2⟩

theorem RowsOf.mono {lo hi lo' hi' : Nat} {w : World} {cs : List Value} {rows : List (List Int)} (h : RowsOf lo hi w cs rows) (h1 : lo' ≤ lo) (h2 : hi ≤ hi') : RowsOf lo' hi' w cs rows :=
  ⟨h.1, fun i hi => (h.2.1 i hi).mono h1 h2, h.2.2⟩

theorem RowsOf.below {lo hi : Nat} {w w' : World} {cs : List Value} {rows : List (List Int)} (h : RowsOf lo hi w cs rows) (hb : Below w.heap.size w w') : RowsOf lo hi w' cs rows :=
  h.keep fun g _ _ hs _ => hb.block g hs

/-- Rows of two kinds of elements lie in two blocks. -/
theorem ownsRow_ne {w : World} {lo lo' : Nat} {e e' : TypeId} {s s' n n' : Nat} {v v' : Value} {xs xs' : List Value} (h : w.ownsRow lo e s v n xs) (h' : w.ownsRow lo' e' s' v' n' xs') (hne : e ≠ e') {g : Nat} (hg : v.ownBlock = some g) : v'.ownBlock ≠ some g := by
  rcases h.2 with ⟨rfl, _⟩ | ⟨g1, cap, cur, rfl, _, hh, _⟩
  · simp [Value.ownBlock] at hg
  · rcases h'.2 with ⟨rfl, _⟩ | ⟨g2, cap', cur', rfl, _, hh', _⟩
    · simp [Value.ownBlock]
    · intro e2
      simp [Value.ownBlock] at hg e2
      subst hg e2
      rw [hh] at hh'
      cases hh'
      exact hne rfl

theorem OwnG.nil (lo hi : Nat) (w : World) : OwnG lo hi w (.slice none 0 0) [] := ⟨[], World.ownsRow_nil w lo _ 1, fun g hg => by simp [Value.ownBlock] at hg, RowsOf.nil _ _ _⟩

theorem OwnG.lt {lo hi : Nat} {w : World} {v : Value} {rows : List (List Int)} (h : OwnG lo hi w v rows) {g : Nat} (hg : v.ownBlock = some g) : lo ≤ g ∧ g < hi ∧ g < w.heap.size := by
  obtain ⟨cs, h1, h2, _⟩ := h
  exact ⟨(h1.lt g hg).1, h2 g hg, (h1.lt g hg).2⟩

theorem OwnG.mono {lo hi lo' hi' : Nat} {w : World} {v : Value} {rows : List (List Int)} (h : OwnG lo hi w v rows) (h1 : lo' ≤ lo) (h2 : hi ≤ hi') : OwnG lo' hi' w v rows := by
  have hl := fun g hg => h.lt (g := g) hg
  obtain ⟨cs, h3, h4, h5⟩ := h
  exact ⟨cs, ownsRow_base h3 (fun g hg => Nat.le_trans h1 (hl g hg).1), fun g hg => Nat.lt_of_lt_of_le (h4 g hg) h2, h5.mono h1 h2⟩

theorem OwnG.only {lo hi lo' hi' : Nat} {w w' : World} {v : Value} {rows : List (List Int)} (h : OwnG lo hi w v rows) (ho : Only lo' hi' w w') (hd : hi ≤ lo' ∨ hi' ≤ lo) : OwnG lo hi w' v rows := by
  have hl := fun g hg => h.lt (g := g) hg
  obtain ⟨cs, h3, h4, h5⟩ := h
  exact ⟨cs, ownsRow_block h3 (fun g hg => by have := hl g hg; exact ho.block g this.2.2 (by omega)), h4, h5.keep fun g h1 h2 h3 _ => ho.block g h3 (by omega)⟩

theorem OwnG.below {lo hi : Nat} {w w' : World} {v : Value} {rows : List (List Int)} (h : OwnG lo hi w v rows) (hb : Below w.heap.size w w') : OwnG lo hi w' v rows := by
  have hl := fun g hg => h.lt (g := g) hg
  obtain ⟨cs, h3, h4, h5⟩ := h
  exact ⟨cs, ownsRow_block h3 (fun g hg => hb.block g (hl g hg).2.2), h4, h5.below hb⟩

theorem OwnG.block' {lo hi : Nat} {w w' : World} {v : Value} {rows : List (List Int)} (h : OwnG lo hi w v rows) (hb : ∀ g, lo ≤ g → g < hi → w'.heap[g]? = w.heap[g]?) (hs : w.heap.size ≤ w'.heap.size) : OwnG lo hi w' v rows := by
  have hl := fun g hg => h.lt (g := g) hg
  obtain ⟨cs, h3, h4, h5⟩ := h
  exact ⟨cs, ownsRow_block h3 (fun g hg => hb g (hl g hg).1 (hl g hg).2.1), h4, h5.keep fun g h1 h2 _ _ => hb g h1 h2⟩
theorem OwnG.set {lo hi : Nat} {w : World} {v : Value} {rows : List (List Int)} (h : OwnG lo hi w v rows) {a : Addr} (ha : a.block < lo) (u : Value) : OwnG lo hi (w.setCell a u) v rows :=
  h.block' (fun g h1 _ => Below.heap_setCell _ _ _ _ (by omega)) (by rw [size_set]; exact Nat.le_refl _)

/-- What it is as a value. -/
theorem OwnG.slice {lo hi : Nat} {w : World} {v : Value} {rows : List (List Int)} (h : OwnG lo hi w v rows) : ∃ a c, v = .slice a rows.length c ∧ grid.Reads w a rows ∧ rows.length ≤ c ∧ rows.length ≤ maxLen := by
  obtain ⟨cs, h1, h2, hl, ho, hd⟩ := h
  rcases h1.2 with ⟨rfl, h0⟩ | ⟨g, cap, cur, rfl, hb, hh, hn, hm, hs, ht⟩
  · have : rows = [] := List.length_eq_zero_iff.1 h0
    subst this
    exact ⟨none, 0, rfl, .inl rfl, Nat.le_refl _, by simp⟩
  · refine ⟨some ⟨g, 0, none⟩, cap, rfl, .inr ⟨g, 0, rfl, (Array.getElem?_eq_some_iff.1 hh).1, fun i hi => ?_⟩, hn, by omega⟩
    obtain ⟨p, c, hv, hr, hc, _⟩ := (ho i hi).slice
    have hx := h1.cells (g := g) rfl i (cs.getD i undef) (by rw [List.getD_eq_getElem?_getD, List.getElem?_eq_getElem (by omega)]; simp)
    rw [Go.WideShapes.add_plain, hv] at hx
    exact ⟨p, c, hx, hc, hr⟩

theorem take_snoc_getD (rows : List (List Int)) (k : Nat) (h : k < rows.length) : rows.take (k + 1) = rows.take k ++ [rows.getD k []] := by
  rw [List.take_succ_eq_append_getElem h, List.getD_eq_getElem?_getD, List.getElem?_eq_getElem h]; rfl

/-- A slice made at its whole length whose first k rows are filled. -/
def OwnPart (lo g : Nat) (w : World) (rows : List (List Int)) (k : Nat) : Prop :=
  ∃ cs : List Value, w.ownsRow lo 22 1 (.slice (some ⟨g, 0, none⟩) rows.length rows.length) rows.length (cs ++ List.replicate (rows.length - k) (.slice none 0 0)) ∧ RowsOf lo w.heap.size w cs (rows.take k) ∧ k ≤ rows.length

theorem OwnPart.start {lo g : Nat} {w : World} {rows : List (List Int)} (h : w.ownsRow lo 22 1 (.slice (some ⟨g, 0, none⟩) rows.length rows.length) rows.length (List.replicate rows.length (.slice none 0 0))) : OwnPart lo g w rows 0 :=
  ⟨[], by simpa using h, by simpa using RowsOf.nil _ _ _, Nat.zero_le _⟩

theorem OwnPart.done {lo g : Nat} {w : World} {rows : List (List Int)} (h : OwnPart lo g w rows rows.length) : OwnG lo w.heap.size w (.slice (some ⟨g, 0, none⟩) rows.length rows.length) rows := by
  obtain ⟨cs, h1, h2, _⟩ := h
  rw [List.take_length] at h2
  exact ⟨cs, by simpa using h1, fun g' hg => (h1.lt g' hg).2, h2⟩

theorem OwnPart.store {lo g : Nat} {w w2 : World} {rows : List (List Int)} {k : Nat} {v : Value} (h : OwnPart lo g w rows k) (hlt : k < rows.length) (hb : Below w.heap.size w w2) (hv : OwnI w.heap.size w2.heap.size w2 v (rows.getD k [])) :
    w2.cell? ⟨g, k, none⟩ = some (.slice none 0 0) ∧ w2.frozen? ⟨g, k, none⟩ = false ∧ OwnPart lo g (w2.setCell ⟨g, k, none⟩ v) rows (k + 1) := by
  obtain ⟨cs, h1, h2, h3⟩ := h
  have hg := (h1.lt g rfl)
  have hcl : cs.length = k := by have := h2.1; simp at this; omega
  have h1' := ownsRow_block (w' := w2) h1 (fun g' hg' => hb.block g' (h1.lt g' hg').2)
  have hst := (h1'.stored k v).1
  refine ⟨?_, h1'.frozenAt k, cs ++ [v], ?_, ?_, by omega⟩
  · rw [h1'.cellAt k (by omega), List.getElem?_append_right (by omega), hcl, Nat.sub_self, List.getElem?_replicate, if_pos (by omega)]
  · have e : (cs ++ List.replicate (rows.length - k) (Value.slice none 0 0)).set k v = cs ++ [v] ++ List.replicate (rows.length - (k + 1)) (.slice none 0 0) := by
      rw [List.set_append, if_neg (by omega), hcl, Nat.sub_self, show rows.length - k = (rows.length - (k + 1)) + 1 by omega, List.replicate_succ, List.set_cons_zero, List.append_assoc]
      rfl
    rw [e] at hst
    exact hst
  · have hsz : (w2.setCell ⟨g, k, none⟩ v).heap.size = w2.heap.size := by simp [World.setCell]
    rw [take_snoc_getD rows k hlt, hsz]
    have hty : ∀ (c : Value) (r : List Int) (l' h' : Nat), OwnI l' h' w2 c r → ∀ g', c.ownBlock = some g' → g' ≠ g := fun c r l' h' ho g' hg' e => by
      subst e
      exact ownsRow_ne ho.1 h1' (by decide) hg' rfl
    have k1 := (h2.below hb).keep (w' := w2.setCell ⟨g, k, none⟩ v) fun g' _ _ _ ⟨i, hi, he⟩ => Below.heap_setCell _ _ _ _ (hty _ _ _ _ ((h2.below hb).2.1 i hi) g' he)
    exact k1.snoc (hv.block fun g' he => Below.heap_setCell _ _ _ _ (hty _ _ _ _ hv g' he)) (by omega) hb.size

theorem OwnC.stir {lo hi : Nat} {w w' : World} {v : Value} {rows : List (List Int)} {cs : List Value} {S : Nat → Prop} (h : OwnC lo hi w v rows cs) (ht : Stir S w w') (h1 : ∀ g, v.ownBlock = some g → ¬ S g) (h2 : ∀ g, Blk cs rows.length g → ¬ S g) : OwnC lo hi w' v rows cs :=
  ⟨ownsRow_block h.1 (fun g hg => ht.block g (h.1.lt g hg).2 (h1 g hg)), h.2.1, h.2.2.keep fun g _ _ h3 h4 => ht.block g h3 (h2 g h4)⟩
theorem OwnI.stir {lo hi : Nat} {w w' : World} {v : Value} {zs : List Int} {S : Nat → Prop} (h : OwnI lo hi w v zs) (ht : Stir S w w') (h1 : ∀ g, v.ownBlock = some g → ¬ S g) : OwnI lo hi w' v zs :=
  h.block fun g hg => ht.block g (h.lt hg).2.2 (h1 g hg)
theorem OwnC.blk {lo hi : Nat} {w : World} {v : Value} {rows : List (List Int)} {cs : List Value} (h : OwnC lo hi w v rows cs) {g : Nat} (hg : Blk cs rows.length g) : lo ≤ g ∧ g < hi ∧ g < w.heap.size := by
  obtain ⟨i, hi, he⟩ := hg
  exact (h.2.2.2.1 i hi).lt he

/-- A list of lists and a list of integers beside it. -/
def OwnS (lo hi : Nat) (w : World) (p l : Value) (rows : List (List Int)) (zs : List Int) : Prop :=
  ∃ cs : List Value, OwnC lo hi w p rows cs ∧ OwnI lo hi w l zs ∧ (∀ g, l.ownBlock = some g → ¬ Blk cs rows.length g)

theorem OwnS.of {lo hi l1 h1 l2 h2 : Nat} {w : World} {p l : Value} {rows : List (List Int)} {zs : List Int} (hp : OwnG l1 h1 w p rows) (hl : OwnI l2 h2 w l zs) (hd : h1 ≤ l2 ∨ h2 ≤ l1) (e1 : lo ≤ l1) (e2 : lo ≤ l2) (e3 : h1 ≤ hi) (e4 : h2 ≤ hi) : OwnS lo hi w p l rows zs := by
  obtain ⟨cs, h⟩ := hp
  refine ⟨cs, ⟨ownsRow_base h.1 fun g hg => Nat.le_trans e1 (h.1.lt g hg).1, fun g hg => Nat.lt_of_lt_of_le (h.2.1 g hg) e3, h.2.2.mono e1 e3⟩, hl.mono e2 e4, fun g hg hb => ?_⟩
  have k1 := h.blk hb
  have k2 := hl.lt hg
  omega

theorem OwnS.only {lo hi lo' hi' : Nat} {w w' : World} {p l : Value} {rows : List (List Int)} {zs : List Int} (h : OwnS lo hi w p l rows zs) (ho : Only lo' hi' w w') (hd : hi ≤ lo' ∨ hi' ≤ lo) : OwnS lo hi w' p l rows zs := by
  obtain ⟨cs, h1, h2, h3⟩ := h
  refine ⟨cs, ⟨ownsRow_block h1.1 fun g hg => ?_, h1.2.1, h1.2.2.keep fun g k1 k2 k3 _ => ho.block g k3 (by omega)⟩, h2.only ho hd, h3⟩
  have := h1.1.lt g hg
  have := h1.2.1 g hg
  exact ho.block g (by omega) (by omega)

theorem OwnS.below {lo hi : Nat} {w w' : World} {p l : Value} {rows : List (List Int)} {zs : List Int} (h : OwnS lo hi w p l rows zs) (hb : Below w.heap.size w w') : OwnS lo hi w' p l rows zs := by
  obtain ⟨cs, h1, h2, h3⟩ := h
  exact ⟨cs, ⟨ownsRow_block h1.1 fun g hg => hb.block g (h1.1.lt g hg).2, h1.2.1, h1.2.2.below hb⟩, h2.below hb, h3⟩

theorem OwnS.mono {lo hi lo' hi' : Nat} {w : World} {p l : Value} {rows : List (List Int)} {zs : List Int} (h : OwnS lo hi w p l rows zs) (e1 : lo' ≤ lo) (e3 : hi ≤ hi') : OwnS lo' hi' w p l rows zs := by
  obtain ⟨cs, h, h2, h3⟩ := h
  exact ⟨cs, ⟨ownsRow_base h.1 fun g hg => Nat.le_trans e1 (h.1.lt g hg).1, fun g hg => Nat.lt_of_lt_of_le (h.2.1 g hg) e3, h.2.2.mono e1 e3⟩, h2.mono e1 e3, h3⟩

theorem OwnS.grid {lo hi : Nat} {w : World} {p l : Value} {rows : List (List Int)} {zs : List Int} (h : OwnS lo hi w p l rows zs) : OwnG lo hi w p rows := by
  obtain ⟨cs, h1, _⟩ := h
  exact ⟨cs, h1⟩
theorem OwnS.ints {lo hi : Nat} {w : World} {p l : Value} {rows : List (List Int)} {zs : List Int} (h : OwnS lo hi w p l rows zs) : OwnI lo hi w l zs := by
  obtain ⟨cs, _, h1, _⟩ := h
  exact h1

/-- What a copy is. -/
def MadeG (rows : List (List Int)) (w : World) (e : Ending) (w' : World) : Prop :=
  ∃ v, e = .returned v ∧ OwnG w.heap.size w'.heap.size w' v rows ∧ Below w.heap.size w w'

/-- The marks of rows, from a number on. -/
def mk (K : Nat) (rows : List (List Int)) (i : Nat) : List Int := intfns.marks (K + grid.tot (rows.take i)) (rows.getD i []).length
def markPart (K : Nat) (rows : List (List Int)) (k : Nat) : List (List Int) := (List.range rows.length).map fun i => if i < k then mk K rows i else rows.getD i []
def markRows (K : Nat) (rows : List (List Int)) : List (List Int) := markPart K rows rows.length

theorem markPart_length (K : Nat) (rows : List (List Int)) (k : Nat) : (markPart K rows k).length = rows.length := by simp [markPart]
theorem markPart_getD (K : Nat) (rows : List (List Int)) (k i : Nat) (h : i < rows.length) : (markPart K rows k).getD i [] = if i < k then mk K rows i else rows.getD i [] := by
  rw [List.getD_eq_getElem?_getD]; simp [markPart, h]
theorem markPart_zero (K : Nat) (rows : List (List Int)) : markPart K rows 0 = rows := by
  apply List.ext_getElem?
  intro i
  by_cases h : i < rows.length
  · have := markPart_getD K rows 0 i h
    rw [List.getD_eq_getElem?_getD, List.getElem?_eq_getElem (by rw [markPart_length]; exact h)] at this
    rw [List.getElem?_eq_getElem (by rw [markPart_length]; exact h), List.getElem?_eq_getElem h]
    simp [List.getElem?_eq_getElem h] at this
    rw [this]
  · rw [List.getElem?_eq_none (by rw [markPart_length]; omega), List.getElem?_eq_none (by omega)]
theorem markRows_length (K : Nat) (rows : List (List Int)) : (markRows K rows).length = rows.length := markPart_length _ _ _
theorem markRows_getD (K : Nat) (rows : List (List Int)) (i : Nat) (h : i < rows.length) : (markRows K rows).getD i [] = mk K rows i := by
  unfold markRows; rw [markPart_getD _ _ _ _ h, if_pos h]

/-- One more row is marked. -/
theorem RowsOf.mark {lo hi K k : Nat} {w w' : World} {cs : List Value} {rows : List (List Int)} (h : RowsOf lo hi w cs (markPart K rows k)) (hk : k < rows.length)
    (hm : OwnI lo hi w' (cs.getD k undef) (mk K rows k)) (hg : ∀ row, (cs.getD k undef).ownBlock = row → w.grownBy w' row) : RowsOf lo hi w' cs (markPart K rows (k + 1)) := by
  obtain ⟨h1, h2, h3⟩ := h
  rw [markPart_length] at h1 h2 h3
  refine ⟨by rw [markPart_length]; exact h1, fun i hi => ?_, fun i j hij hj => ?_⟩
  · rw [markPart_length] at hi
    rw [markPart_getD _ _ _ _ hi]
    by_cases e : i = k
    · subst e
      rw [if_pos (by omega)]
      exact hm
    · have := h2 i hi
      rw [markPart_getD _ _ _ _ hi] at this
      simp only [show (i < k + 1) ↔ (i < k) from by omega]
      refine this.block fun g hgi => (hg _ rfl).block g (this.lt hgi).2.2 fun e2 => ?_
      rcases Nat.lt_or_gt_of_ne e with hl | hl
      · exact h3 i k hl hk g hgi e2.symm
      · exact h3 k i hl hi g e2.symm hgi
  · rw [markPart_length] at hj
    exact h3 i j hij hj
theorem OwnI.reads {lo hi : Nat} {w : World} {a : Option Addr} {n c : Nat} {zs : List Int} (h : OwnI lo hi w (.slice a n c) zs) : ints.Reads .i64 w a zs := by
  obtain ⟨a', c', e, hr, _, _⟩ := h.slice
  cases e
  exact hr
theorem OwnG.reads {lo hi : Nat} {w : World} {a : Option Addr} {n c : Nat} {rows : List (List Int)} (h : OwnG lo hi w (.slice a n c) rows) : grid.Reads w a rows := by
  obtain ⟨a', c', e, hr, _, _⟩ := h.slice
  cases e
  exact hr
theorem Only.cell {lo hi : Nat} {w w' : World} (h : Only lo hi w w') {b o : Nat} {x : Value} (hx : w.cell? ⟨b, o, none⟩ = some x) (hs : b < w.heap.size) (hb : b < lo ∨ hi ≤ b) : w'.cell? ⟨b, o, none⟩ = some x :=
  (World.cell?_of_block (h.block b hs hb)).trans hx
theorem cell_below {B : Nat} {w w' : World} (h : Below B w w') {b o : Nat} {x : Value} (hx : w.cell? ⟨b, o, none⟩ = some x) (hb : b < B) : w'.cell? ⟨b, o, none⟩ = some x :=
  (h.cell (p := ⟨b, o, none⟩) hb).trans hx
theorem cell_new (w : World) (cs : Array Value) (T : TypeId) {b o : Nat} {x : Value} (hb : b = w.heap.size) (hx : cs[o]? = some x) : (w.alloc (.cells cs T)).cell? ⟨b, o, none⟩ = some x := by
  subst hb
  have hh : (w.alloc (.cells cs T)).heap[w.heap.size]? = some (.cells cs T (0, 0)) := heap_alloc_new w _
  unfold World.cell?
  rw [hh]
  exact hx
theorem cell_old {w : World} (O : Obj) {b o : Nat} {x : Value} (hx : w.cell? ⟨b, o, none⟩ = some x) : (w.alloc O).cell? ⟨b, o, none⟩ = some x :=
  (World.cell?_of_block (Below.heap_alloc w O b (World.block_lt_of_cell? w _ hx))).trans hx
theorem below_alloc (w : World) (O : Obj) : Below w.heap.size w (w.alloc O) := (Below.refl _ _).alloc (Nat.le_refl _) O
theorem size_alloc' (w : World) (O : Obj) : w.heap.size < (w.alloc O).heap.size := by simp

/-- How a call ends. -/
def RetB (ok : Bool) (w : World) (e : Ending) (w' : World) : Prop := e = .returned (.bool ok) ∧ Below w.heap.size w w'
def RetN (n : Int) (w : World) (e : Ending) (w' : World) : Prop := e = .returned (.int .i64 n) ∧ Below w.heap.size w w'
def RetNB (n : Int) (ok : Bool) (w : World) (e : Ending) (w' : World) : Prop := e = .returned (.tuple #[.int .i64 n, .bool ok]) ∧ Below w.heap.size w w'
def RetBB (b ok : Bool) (w : World) (e : Ending) (w' : World) : Prop := e = .returned (.tuple #[.bool b, .bool ok]) ∧ Below w.heap.size w w'
def RetNNB (n m : Int) (ok : Bool) (w : World) (e : Ending) (w' : World) : Prop := e = .returned (.tuple #[.int .i64 n, .int .i64 m, .bool ok]) ∧ Below w.heap.size w w'
def RetIB (zs : List Int) (ok : Bool) (w : World) (e : Ending) (w' : World) : Prop := ∃ v, e = .returned (.tuple #[v, .bool ok]) ∧ OwnI w.heap.size w'.heap.size w' v zs ∧ Below w.heap.size w w'
def RetPB (zs : List Int) (b : Int) (ok : Bool) (w : World) (e : Ending) (w' : World) : Prop := ∃ v, e = .returned (.tuple #[.agg #[v, .int .i64 b], .bool ok]) ∧ OwnI w.heap.size w'.heap.size w' v zs ∧ Below w.heap.size w w'
def RetSB (rows : List (List Int)) (zs : List Int) (ok : Bool) (w : World) (e : Ending) (w' : World) : Prop := ∃ p l, e = .returned (.tuple #[.agg #[p, l], .bool ok]) ∧ OwnS w.heap.size w'.heap.size w' p l rows zs ∧ Below w.heap.size w w'
theorem own_empty (w : World) : OwnI w.heap.size (w.heap.size + 1) (w.alloc (.cells #[] 3)) (.slice (some ⟨w.heap.size, 0, none⟩) 0 0) [] :=
  ⟨World.ownsRow_made (base := w.heap.size) (e := 3) (size := 1) w #[] 0 (Nat.le_refl _) (by unfold maxLen; omega) rfl, fun g hg => by simp [Value.ownBlock] at hg; omega⟩
theorem ret_empty {W w1 : World} (h : Below W.heap.size W w1) : RetIB [] false W (.returned (.tuple #[.slice (some ⟨w1.heap.size, 0, none⟩) 0 0, .bool false])) (w1.alloc (.cells #[] 3)) :=
  ⟨_, rfl, (own_empty w1).mono h.size (by simp), h.alloc h.size _⟩
theorem fro_new (w : World) (cs : Array Value) (T : TypeId) {b o : Nat} (hb : b = w.heap.size) : (w.alloc (.cells cs T)).frozen? ⟨b, o, none⟩ = false := by
  subst hb
  have hh : (w.alloc (.cells cs T)).heap[w.heap.size]? = some (.cells cs T (0, 0)) := heap_alloc_new w _
  unfold World.frozen?
  rw [hh]
  simp
theorem fro_below {B : Nat} {w w' : World} (h : Below B w w') {b o : Nat} (hx : w.frozen? ⟨b, o, none⟩ = false) (hb : b < B) : w'.frozen? ⟨b, o, none⟩ = false :=
  (h.frozen (p := ⟨b, o, none⟩) hb).trans hx
end Go.Proofs.Ytoephhhofkmgjab.own

namespace Go.Proofs.Ytoephhhofkmgjab.nums
open Go.RowKit own pp
set_option linter.unusedVariables false

/-- It returns a truth value, and the world is as it was. -/
def Says (ok : Bool) (w : World) (e : Ending) (w' : World) : Prop := e = .returned (.bool ok) ∧ w = w'
theorem says_ret {ok : Bool} {w : World} (e : Ending) (w' : World) (h : Says ok w e w') : RetB ok w e w' := by
  obtain ⟨h1, rfl⟩ := h
  exact ⟨h1, Below.refl _ _⟩

theorem in_any (x a b : Int) (w : World) (ok : Bool) (h : Hid ((decide (a ≤ x) && decide (x ≤ b)) = ok)) :
    Calls Try.prog 69 #[.int .i64 x, .int .i64 a, .int .i64 b] w (Says ok w) := by
  by_cases h1 : a ≤ x
  · by_cases h2 : x ≤ b
    · have e : ok = true := by rw [← h.out]; simp [h1, h2]
      clear h
      subst e
      go_enter Try.func69, Try.ntmps69
      go_wp2
      go_ret
      exact ⟨rfl, rfl⟩
    · have e : ok = false := by rw [← h.out]; simp [h2]
      clear h
      subst e
      go_enter Try.func69, Try.ntmps69
      go_wp2
      go_ret
      exact ⟨rfl, rfl⟩
  · have e : ok = false := by rw [← h.out]; simp [h1]
    clear h
    subst e
    go_enter Try.func69, Try.ntmps69
    go_wp2
    go_ret
    exact ⟨rfl, rfl⟩

set_option maxHeartbeats 400000 in
theorem spec_nums (a : Option Addr) (zs : List Int) (c : Nat) (m : Int) (w : World) (hr : ints.Reads .i64 w a zs) (hn : zs.length ≤ 1048576) (h0 : 0 ≤ m) (h1 : m ≤ 1000) (ok : Bool) (h : Hid (numsB m zs = ok)) :
    Calls Try.prog 122 #[.slice a zs.length c, .int .i64 m] w (Says ok w) := by
  go_enter Try.func122, Try.ntmps122
  go_wp2_with fail
  go_loop [5] (fun i => ∃ k : Nat, k ≤ zs.length ∧ i = .int .i64 k ∧ Hid (∀ j, j < k → inB m (zs.getD j 0) = true)) (fun i => zs.length - (intOf i).toNat)
  case atStart => exact ⟨0, Nat.zero_le _, rfl, fun j hj => by omega⟩
  case round =>
    obtain ⟨k, hk, rfl, hj⟩ := hrel
    by_cases hlt : k < zs.length
    · obtain ⟨b, off, rfl, hb, hc⟩ := hr.at hlt
      cases hx : inB m (zs.getD k 0)
      · have e : ok = false := by rw [← h.out]; exact all_false _ 0 zs k hlt hx
        have HX := Lib.hid hx
        clear h hx
        subst e
        unfold inB at HX
        generalize hs : zs.getD k 0 = s at *
        clear hs
        go_wp2_with fail
        refine (in_any _ _ _ _ false HX).mono ?_
        rintro e w' ⟨rfl, rfl⟩
        go_wp2_with fail
        go_ret
        exact ⟨rfl, rfl⟩
      · have HJ : Hid (∀ j, j < k + 1 → inB m (zs.getD j 0) = true) := fun j h => by
          by_cases e : j = k
          · rw [e]; exact hx
          · exact hj.out j (by omega)
        have HX := Lib.hid hx
        clear hx hj
        unfold inB at HX
        generalize hs : zs.getD k 0 = s at *
        clear hs
        go_wp2_with fail
        refine (in_any _ _ _ _ true HX).mono ?_
        rintro e w' ⟨rfl, rfl⟩
        go_wp2_with fail
        go_round
        case rel => exact ⟨k + 1, by omega, by go_num, HJ⟩
        case measure => simp [intOf]; omega
    · have : k = zs.length := by omega
      have e : ok = true := by rw [← h.out]; exact all_true _ 0 zs (fun j hj' => hj.out j (by omega))
      clear h hj
      subst this
      subst e
      go_wp2_with fail
      go_ret
      exact ⟨rfl, rfl⟩

theorem within_any (x m : Int) (w : World) (h0 : 0 ≤ m) (h1 : m ≤ 1000) (ok : Bool) (h : Hid (inB m x = ok)) :
    Calls Try.prog 144 #[.int .i64 x, .int .i64 m] w (Says ok w) := by
  unfold inB at h
  by_cases h1 : -m ≤ x
  · by_cases h2 : x ≤ m
    · have e : ok = true := by rw [← h.out]; simp [h1, h2]
      clear h
      subst e
      go_enter Try.func144, Try.ntmps144
      go_wp2
      go_ret
      exact ⟨rfl, rfl⟩
    · have e : ok = false := by rw [← h.out]; simp [h2]
      clear h
      subst e
      go_enter Try.func144, Try.ntmps144
      go_wp2
      go_ret
      exact ⟨rfl, rfl⟩
  · have e : ok = false := by rw [← h.out]; simp [h1]
    clear h
    subst e
    go_enter Try.func144, Try.ntmps144
    go_wp2
    go_ret
    exact ⟨rfl, rfl⟩
set_option maxHeartbeats 400000 in
theorem impl_nums (a : Option Addr) (zs : List Int) (c : Nat) (m : Int) (w : World) (hr : ints.Reads .i64 w a zs) (hn : zs.length ≤ 1048576) (h0 : 0 ≤ m) (h1 : m ≤ 1000) (ok : Bool) (h : Hid (numsB m zs = ok)) :
    Calls Try.prog 128 #[.slice a zs.length c, .int .i64 m] w (Says ok w) := by
  go_enter Try.func128, Try.ntmps128
  go_wp2_with fail
  go_loop [9] (fun i => ∃ k : Nat, k ≤ zs.length ∧ i = .int .i64 k ∧ Hid (∀ j, j < k → inB m (zs.getD j 0) = true)) (fun i => zs.length - (intOf i).toNat)
  case atStart => exact ⟨0, Nat.zero_le _, rfl, fun j hj => by omega⟩
  case round =>
    obtain ⟨k, hk, rfl, hj⟩ := hrel
    by_cases hlt : k < zs.length
    · obtain ⟨b, off, rfl, hb, hc⟩ := hr.at hlt
      cases hx : inB m (zs.getD k 0)
      · have e : ok = false := by rw [← h.out]; exact all_false _ 0 zs k hlt hx
        have HX := Lib.hid hx
        clear h hx
        subst e
        generalize hs : zs.getD k 0 = s at *
        clear hs
        go_wp2_with fail
        refine (within_any _ _ _ h0 h1 false HX).mono ?_
        rintro e w' ⟨rfl, rfl⟩
        go_wp2_with fail
        go_ret
        exact ⟨rfl, rfl⟩
      · have HJ : Hid (∀ j, j < k + 1 → inB m (zs.getD j 0) = true) := fun j h => by
          by_cases e : j = k
          · rw [e]; exact hx
          · exact hj.out j (by omega)
        have HX := Lib.hid hx
        clear hx hj
        generalize hs : zs.getD k 0 = s at *
        clear hs
        go_wp2_with fail
        refine (within_any _ _ _ h0 h1 true HX).mono ?_
        rintro e w' ⟨rfl, rfl⟩
        go_wp2_with fail
        go_round
        case rel => exact ⟨k + 1, by omega, by go_num, HJ⟩
        case measure => simp [intOf]; omega
    · have : k = zs.length := by omega
      have e : ok = true := by rw [← h.out]; exact all_true _ 0 zs (fun j hj' => hj.out j (by omega))
      clear h hj
      subst this
      subst e
      go_wp2_with fail
      go_ret
      exact ⟨rfl, rfl⟩

theorem spec_point (a : Option Addr) (zs : List Int) (c : Nat) (w : World) (hr : ints.Reads .i64 w a zs) (hn : zs.length ≤ 1048576) (ok : Bool) (h : Hid (pointB zs = ok)) :
    Calls Try.prog 99 #[.slice a zs.length c] w (Says ok w) := by
  cases hl : (decide ((1 : Int) ≤ zs.length) && decide ((zs.length : Int) ≤ 4))
  · have e : ok = false := by
      rw [← h.out]
      unfold pointB
      rw [Bool.and_eq_false_iff]
      left
      simp at hl ⊢
      intro h; have := hl (by omega); omega
    have HL := Lib.hid hl
    clear h hl
    subst e
    go_enter Try.func99, Try.ntmps99
    go_wp2_with fail
    refine (in_any _ _ _ _ false HL).mono ?_
    rintro e w' ⟨rfl, rfl⟩
    go_wp2_with fail
    go_ret
    exact ⟨rfl, rfl⟩
  · have e : Hid (numsB 9 zs = ok) := by
      rw [← h.out]
      simp at hl
      show numsB 9 zs = pointB zs
      simp [pointB, show 1 ≤ zs.length by omega, show zs.length ≤ 4 by omega]
    have HL := Lib.hid hl
    clear h hl
    go_enter Try.func99, Try.ntmps99
    go_wp2_with fail
    refine (in_any _ _ _ _ true HL).mono ?_
    rintro e w' ⟨rfl, rfl⟩
    go_wp2_with fail
    refine (spec_nums a zs c 9 _ hr hn (by omega) (by omega) ok e).mono ?_
    rintro e w' ⟨rfl, rfl⟩
    go_wp2_with fail
    go_ret
    exact ⟨rfl, rfl⟩
theorem impl_point (a : Option Addr) (zs : List Int) (c : Nat) (w : World) (hr : ints.Reads .i64 w a zs) (hn : zs.length ≤ 1048576) (ok : Bool) (h : Hid (pointB zs = ok)) :
    Calls Try.prog 100 #[.slice a zs.length c] w (Says ok w) := by
  by_cases h1 : 1 ≤ zs.length
  · by_cases h2 : zs.length ≤ 4
    · have e : Hid (numsB 9 zs = ok) := by
        rw [← h.out]
        show numsB 9 zs = pointB zs
        simp [pointB, h1, h2]
      clear h
      go_enter Try.func100, Try.ntmps100
      go_wp2_with fail
      refine (impl_nums a zs c 9 _ hr hn (by omega) (by omega) ok e).mono ?_
      rintro e w' ⟨rfl, rfl⟩
      go_wp2_with fail
      go_ret
      exact ⟨rfl, rfl⟩
    · have e : ok = false := by rw [← h.out]; simp [pointB, h2]
      clear h
      subst e
      go_enter Try.func100, Try.ntmps100
      go_wp2_with fail
      go_ret
      exact ⟨rfl, rfl⟩
  · have e : ok = false := by rw [← h.out]; simp [pointB, h1]
    clear h
    subst e
    have hz : zs = [] := List.length_eq_zero_iff.1 (by omega)
    subst hz
    go_enter Try.func100, Try.ntmps100
    go_wp2_with fail
    go_ret
    exact ⟨rfl, rfl⟩
end Go.Proofs.Ytoephhhofkmgjab.nums

namespace Go.Proofs.Ytoephhhofkmgjab.most
open Go.RowKit own pp nums
set_option linter.unusedVariables false

theorem most_any (x y : Int) (w : World) :
    Calls Try.prog 135 #[.int .i64 x, .int .i64 y] w fun e w' => e = .returned (.int .i64 (max x y)) ∧ w' = w := by
  by_cases h : y < x
  · have e : max x y = x := by omega
    rw [e]
    have g : decide (y < x) = true := by simp [h]
    clear e
    go_enter Try.func135, Try.ntmps135
    go_wp2
    go_ret
    exact ⟨rfl, rfl⟩
  · have e : max x y = y := by omega
    rw [e]
    have g : decide (y < x) = false := by simp; omega
    clear e
    go_enter Try.func135, Try.ntmps135
    go_wp2
    go_ret
    exact ⟨rfl, rfl⟩
end Go.Proofs.Ytoephhhofkmgjab.most

namespace Go.Proofs.Ytoephhhofkmgjab.planefns
open Go.RowKit own
set_option linter.unusedVariables false

theorem sz_yes (a : Option Addr) (n c : Nat) (b left : Int) (w : World) (h0 : (n : Int) ≤ left) (h1 : left ≤ 1048576) :
    Calls Try.prog 121 #[.agg #[.slice a n c, .int .i64 b], .int .i64 left] w fun e w' => e = .returned (.int .i64 (left - n)) ∧ Below w.heap.size w w' := by
  go_enter Try.func121, Try.ntmps121
  go_wp2_with fail
  refine (intfns.sz_yes _ _ _ _ _ (by omega) (by omega)).mono ?_
  rintro e w' ⟨rfl, rfl⟩
  go_wp2_with fail
  go_ret
  exact ⟨rfl, (Below.refl _ _).alloc (Nat.le_refl _) _⟩

theorem sz_no (a : Option Addr) (n c : Nat) (b left : Int) (w : World) (h0 : left < (n : Int)) (h1 : left ≤ 1048576) (h2 : 0 ≤ left) (hn : n ≤ 9223372036854775807) :
    Calls Try.prog 121 #[.agg #[.slice a n c, .int .i64 b], .int .i64 left] w fun e w' => e = .returned (.int .i64 (-1)) ∧ Below w.heap.size w w' := by
  go_enter Try.func121, Try.ntmps121
  go_wp2_with fail
  refine (intfns.sz_no _ _ _ _ _ (by omega) (by omega) (by omega) hn).mono ?_
  rintro e w' ⟨rfl, rfl⟩
  go_wp2_with fail
  go_ret
  exact ⟨rfl, (Below.refl _ _).alloc (Nat.le_refl _) _⟩

/-- What a copy is. -/
def MadeP (zs : List Int) (b : Int) (w : World) (e : Ending) (w' : World) : Prop :=
  ∃ v, e = .returned (.agg #[v, .int .i64 b]) ∧ OwnI w.heap.size w'.heap.size w' v zs ∧ Below w.heap.size w w'

set_option maxHeartbeats 400000 in
theorem to_any (a : Option Addr) (zs : List Int) (c : Nat) (b : Int) (w : World) (hr : ints.Reads .i64 w a zs) (hn : zs.length ≤ 1048576) :
    Calls Try.prog 124 #[.agg #[.slice a zs.length c, .int .i64 b]] w (MadeP zs b w) := by
  go_enter Try.func124, Try.ntmps124
  go_wp2_with fail
  refine (intfns.to_any a zs c _ (hr.below ?_) hn).mono ?_
  · exact (((Below.refl _ _).alloc (Nat.le_refl _) _).alloc (by simp) _).alloc (by simp; omega) _
  rintro e w1 ⟨v, rfl, ho, hb⟩
  obtain ⟨p, q, rfl, _, _, _⟩ := ho.slice
  obtain ⟨hc, hf⟩ := bcell hb
  have hs : w.heap.size + 1 + 1 + 1 ≤ w1.heap.size := by have := hb.size; simp at this; omega
  have HB := Lib.hid hb
  have HO := Lib.hid ho
  clear hb ho
  go_wp2_with fail
  refine bodyPost_ret (v := .agg #[.slice p zs.length q, .int .i64 b]) (by simp [results, Try.results124, go_sem, hc]) rfl ⟨_, rfl, ?_, ?_⟩
  · simp only [size_set]
    exact ((((HO.out.set (by simp) _).set (by simp) _).set (by simp) _).set (by simp) _).mono (by simp; omega) (Nat.le_refl _)
  · exact (((((((Below.refl _ _).alloc (Nat.le_refl _) _).alloc (by simp) _).alloc (by simp; omega) _).trans (HB.out.mono (by simp; omega))).setCell (by simp; omega) _).setCell (by simp; omega) _).setCell (by simp) _ |>.setCell (by simp) _
set_option maxHeartbeats 400000 in
theorem eq_same (a a' : Option Addr) (zs : List Int) (c c' : Nat) (b : Int) (w : World) (hr : ints.Reads .i64 w a zs) (hr' : ints.Reads .i64 w a' zs) (hn : zs.length ≤ 9223372036854775807) :
    Calls Try.prog 27 #[.agg #[.slice a zs.length c, .int .i64 b], .agg #[.slice a' zs.length c', .int .i64 b]] w fun e w' => e = .returned (.bool true) ∧ Below w.heap.size w w' := by
  go_enter Try.func27, Try.ntmps27
  go_wp2_with fail
  have hB := (((Below.refl w.heap.size w).alloc (Nat.le_refl _) (.cells #[.slice a zs.length c, .int .i64 b] 46)).alloc (by simp) (.cells #[.slice a' zs.length c', .int .i64 b] 46))
  refine (intfns.eq_same _ _ zs _ _ _ (hr.below hB) (hr'.below hB) hn).mono ?_
  rintro e w1 ⟨rfl, hb⟩
  obtain ⟨hc, hf⟩ := bcell hb
  have hs : w.heap.size + 1 + 1 ≤ w1.heap.size := by have := hb.size; simp at this; omega
  have HB := Lib.hid (hB.trans (hb.mono (by simp; omega)))
  clear hb hB
  go_wp2_with fail
  go_ret
  exact ⟨rfl, HB.out⟩
/-- What marking leaves. -/
def MarkedP (lo hi : Nat) (v : Value) (n K : Nat) (w : World) (e : Ending) (w' : World) : Prop :=
  e = .returned (.int .i64 (K + n : Nat)) ∧ OwnI lo hi w' v (intfns.marks K n) ∧ Only lo hi w w'

theorem mark_any (lo hi : Nat) (a : Option Addr) (c : Nat) (zs : List Int) (b : Int) (K : Nat) (w : World) (h : OwnI lo hi w (.slice a zs.length c) zs) (h2 : K + zs.length ≤ 4611686018427387904) :
    Calls Try.prog 28 #[.agg #[.slice a zs.length c, .int .i64 b], .int .i64 K] w (MarkedP lo hi (.slice a zs.length c) zs.length K w) := by
  have hB := ((Below.refl w.heap.size w).alloc (Nat.le_refl _) (.cells #[.slice a zs.length c, .int .i64 b] 46))
  have HO := Lib.hid (h.below hB)
  have HB := Lib.hid hB
  clear h hB
  go_enter Try.func28, Try.ntmps28
  go_wp2_with fail
  refine (intfns.mark_any lo hi _ _ zs K _ HO.out h2).mono ?_
  rintro e w1 ⟨rfl, ho1, hg1⟩
  have HO1 := Lib.hid ho1
  have HG := Lib.hid ((Only.of_below (lo := lo) (hi := hi) HB.out).trans (Only.of_grown (hg1 _ rfl) fun g hg => ⟨(HO.out.lt hg).1, (HO.out.lt hg).2.1⟩))
  clear ho1 hg1
  go_wp2_with fail
  go_ret
  exact ⟨rfl, HO1.out, HG.out⟩
theorem held_any (a : Option Addr) (c n K : Nat) (b : Int) (w : World) (hr : ints.Reads .i64 w a (intfns.marks K n)) (h2 : K + n ≤ 4611686018427387904) :
    Calls Try.prog 29 #[.agg #[.slice a n c, .int .i64 b], .int .i64 K] w fun e w' => e = .returned (.int .i64 (K + n : Nat)) ∧ Below w.heap.size w w' := by
  have hB := ((Below.refl w.heap.size w).alloc (Nat.le_refl _) (.cells #[.slice a n c, .int .i64 b] 46))
  have hr1 := hr.below hB
  have HB := Lib.hid hB
  clear hB
  go_enter Try.func29, Try.ntmps29
  go_wp2_with fail
  refine (intfns.held_any _ _ n K _ hr1 h2).mono ?_
  rintro e w1 ⟨rfl, hb⟩
  have HB1 := Lib.hid (HB.out.trans (hb.mono (by simp)))
  clear hb
  go_wp2_with fail
  go_ret
  exact ⟨rfl, HB1.out⟩
end Go.Proofs.Ytoephhhofkmgjab.planefns

namespace Go.Proofs.Ytoephhhofkmgjab.own
open Go.RowKit
set_option linter.unusedVariables false

/-- The cells of planes whose weights' headers are cs. -/
def flatJ : List Value → List (List Int × Int) → List Value
  | c :: cs, x :: ps => c :: .int .i64 x.2 :: flatJ cs ps
  | _, _ => []
theorem flatJ_length (cs : List Value) (ps : List (List Int × Int)) (h : cs.length = ps.length) : (flatJ cs ps).length = ps.length * 2 := by
  induction ps generalizing cs with
  | nil => cases cs <;> rfl
  | cons x ps ih =>
    cases cs with
    | nil => cases h
    | cons c cs =>
      have := ih cs (by simpa using h)
      simp only [flatJ, List.length_cons, this]; omega
theorem flatJ_at (cs : List Value) (ps : List (List Int × Int)) (h : cs.length = ps.length) (k : Nat) (hk : k < ps.length) : (flatJ cs ps)[k * 2]? = some (cs.getD k undef) ∧ (flatJ cs ps)[k * 2 + 1]? = some (.int .i64 (ps.getD k ([], 0)).2) := by
  induction ps generalizing cs k with
  | nil => simp at hk
  | cons x ps ih =>
    cases cs with
    | nil => cases h
    | cons c cs =>
      cases k with
      | zero => exact ⟨rfl, rfl⟩
      | succ k =>
        have := ih cs (by simpa using h) k (by simpa using hk)
        rw [show (k + 1) * 2 = k * 2 + 2 by omega]
        exact this
theorem flatJ_snoc (cs : List Value) (ps : List (List Int × Int)) (h : cs.length = ps.length) (c : Value) (x : List Int × Int) : flatJ (cs ++ [c]) (ps ++ [x]) = flatJ cs ps ++ [c, .int .i64 x.2] := by
  induction ps generalizing cs with
  | nil =>
    cases cs with
    | nil => rfl
    | cons _ _ => cases h
  | cons y ps ih =>
    cases cs with
    | nil => cases h
    | cons d cs =>
      have := ih cs (by simpa using h)
      simp only [List.cons_append, flatJ, this]
theorem wsJ_getD (ps : List (List Int × Int)) (k : Nat) : (ps.map Prod.fst).getD k [] = (ps.getD k ([], 0)).1 := by
  rw [List.getD_eq_getElem?_getD, List.getD_eq_getElem?_getD, List.getElem?_map]
  cases ps[k]? <;> rfl
/-- A slice of planes: its own block, and the weights in theirs. -/
def OwnK (lo hi : Nat) (w : World) (v : Value) (ps : List (List Int × Int)) (cs : List Value) : Prop :=
  w.ownsRow lo 46 2 v ps.length (flatJ cs ps) ∧ (∀ g, v.ownBlock = some g → g < hi) ∧ RowsOf lo hi w cs (ps.map Prod.fst)
def OwnJ (lo hi : Nat) (w : World) (v : Value) (ps : List (List Int × Int)) : Prop := ∃ cs : List Value, OwnK lo hi w v ps cs
/-- The slice with this address reads as these planes. -/
def ReadsJ (w : World) (a : Option Addr) (ps : List (List Int × Int)) : Prop :=
  ps = [] ∨ ∃ b off, a = some ⟨b, off, none⟩ ∧ b < w.heap.size ∧ ∀ k, k < ps.length → ∃ p c, w.cell? ⟨b, off + k * 2, none⟩ = some (.slice p (ps.getD k ([], 0)).1.length c) ∧ w.cell? ⟨b, off + k * 2 + 1, none⟩ = some (.int .i64 (ps.getD k ([], 0)).2) ∧
    (ps.getD k ([], 0)).1.length ≤ c ∧ ints.Reads .i64 w p (ps.getD k ([], 0)).1
theorem ReadsJ.at {w : World} {a : Option Addr} {ps : List (List Int × Int)} (h : ReadsJ w a ps) {k : Nat} (hk : k < ps.length) : ∃ b off p c, a = some ⟨b, off, none⟩ ∧ b < w.heap.size ∧ w.cell? ⟨b, off + k * 2, none⟩ = some (.slice p (ps.getD k ([], 0)).1.length c) ∧
    w.cell? ⟨b, off + k * 2 + 1, none⟩ = some (.int .i64 (ps.getD k ([], 0)).2) ∧ (ps.getD k ([], 0)).1.length ≤ c ∧ ints.Reads .i64 w p (ps.getD k ([], 0)).1 := by
  rcases h with rfl | ⟨b, off, e, hb, hc⟩
  · simp at hk
  · obtain ⟨p, c, h1, h2, h3, h4⟩ := hc k hk
    exact ⟨b, off, p, c, e, hb, h1, h2, h3, h4⟩
theorem ReadsJ.below {w w' : World} {a : Option Addr} {ps : List (List Int × Int)} (h : ReadsJ w a ps) (hb : Below w.heap.size w w') : ReadsJ w' a ps := by
  rcases h with rfl | ⟨b, off, e, hlt, hc⟩
  · exact .inl rfl
  · refine .inr ⟨b, off, e, Nat.lt_of_lt_of_le hlt hb.size, fun k hk => ?_⟩
    obtain ⟨p, c, h1, h2, h3, h4⟩ := hc k hk
    exact ⟨p, c, cell_below hb h1 hlt, cell_below hb h2 hlt, h3, h4.below hb⟩
theorem OwnJ.nil (lo hi : Nat) (w : World) : OwnJ lo hi w (.slice none 0 0) [] := ⟨[], World.ownsRow_nil w lo _ 2, fun g hg => by simp [Value.ownBlock] at hg, RowsOf.nil _ _ _⟩
theorem OwnJ.lt {lo hi : Nat} {w : World} {v : Value} {ps : List (List Int × Int)} (h : OwnJ lo hi w v ps) {g : Nat} (hg : v.ownBlock = some g) : lo ≤ g ∧ g < hi ∧ g < w.heap.size := by
  obtain ⟨cs, h1, h2, _⟩ := h
  exact ⟨(h1.lt g hg).1, h2 g hg, (h1.lt g hg).2⟩
theorem OwnJ.mono {lo hi lo' hi' : Nat} {w : World} {v : Value} {ps : List (List Int × Int)} (h : OwnJ lo hi w v ps) (h1 : lo' ≤ lo) (h2 : hi ≤ hi') : OwnJ lo' hi' w v ps := by
  have hl := fun g hg => h.lt (g := g) hg
  obtain ⟨cs, h3, h4, h5⟩ := h
  exact ⟨cs, ownsRow_base h3 (fun g hg => Nat.le_trans h1 (hl g hg).1), fun g hg => Nat.lt_of_lt_of_le (h4 g hg) h2, h5.mono h1 h2⟩
theorem OwnJ.only {lo hi lo' hi' : Nat} {w w' : World} {v : Value} {ps : List (List Int × Int)} (h : OwnJ lo hi w v ps) (ho : Only lo' hi' w w') (hd : hi ≤ lo' ∨ hi' ≤ lo) : OwnJ lo hi w' v ps := by
  have hl := fun g hg => h.lt (g := g) hg
  obtain ⟨cs, h3, h4, h5⟩ := h
  exact ⟨cs, ownsRow_block h3 (fun g hg => by have := hl g hg; exact ho.block g this.2.2 (by omega)), h4, h5.keep fun g h1 h2 h3 _ => ho.block g h3 (by omega)⟩
theorem OwnJ.below {lo hi : Nat} {w w' : World} {v : Value} {ps : List (List Int × Int)} (h : OwnJ lo hi w v ps) (hb : Below w.heap.size w w') : OwnJ lo hi w' v ps := by
  have hl := fun g hg => h.lt (g := g) hg
  obtain ⟨cs, h3, h4, h5⟩ := h
  exact ⟨cs, ownsRow_block h3 (fun g hg => hb.block g (hl g hg).2.2), h4, h5.below hb⟩
theorem OwnJ.block' {lo hi : Nat} {w w' : World} {v : Value} {ps : List (List Int × Int)} (h : OwnJ lo hi w v ps) (hb : ∀ g, lo ≤ g → g < hi → w'.heap[g]? = w.heap[g]?) (hs : w.heap.size ≤ w'.heap.size) : OwnJ lo hi w' v ps := by
  have hl := fun g hg => h.lt (g := g) hg
  obtain ⟨cs, h3, h4, h5⟩ := h
  exact ⟨cs, ownsRow_block h3 (fun g hg => hb g (hl g hg).1 (hl g hg).2.1), h4, h5.keep fun g h1 h2 _ _ => hb g h1 h2⟩
theorem OwnJ.set {lo hi : Nat} {w : World} {v : Value} {ps : List (List Int × Int)} (h : OwnJ lo hi w v ps) {a : Addr} (ha : a.block < lo) (u : Value) : OwnJ lo hi (w.setCell a u) v ps :=
  h.block' (fun g h1 _ => Below.heap_setCell _ _ _ _ (by omega)) (by rw [size_set]; exact Nat.le_refl _)
/-- What it is as a value. -/
theorem OwnJ.slice {lo hi : Nat} {w : World} {v : Value} {ps : List (List Int × Int)} (h : OwnJ lo hi w v ps) : ∃ a c, v = .slice a ps.length c ∧ ReadsJ w a ps ∧ ps.length ≤ c ∧ ps.length ≤ maxLen := by
  obtain ⟨cs, h1, h2, hl, ho, hd⟩ := h
  have hl' : cs.length = ps.length := by rw [hl, List.length_map]
  rcases h1.2 with ⟨rfl, h0⟩ | ⟨g, cap, cur, rfl, hb, hh, hn, hm, hs, ht⟩
  · have : ps = [] := List.length_eq_zero_iff.1 h0
    subst this
    exact ⟨none, 0, rfl, .inl rfl, Nat.le_refl _, Nat.zero_le _⟩
  · refine ⟨some ⟨g, 0, none⟩, cap, rfl, .inr ⟨g, 0, rfl, (Array.getElem?_eq_some_iff.1 hh).1, fun k hk => ?_⟩, hn, by omega⟩
    obtain ⟨p, c, hv, hr, hc, _⟩ := (ho k (by rw [List.length_map]; exact hk)).slice
    rw [wsJ_getD] at hv hr hc
    rw [Nat.zero_add]
    refine ⟨p, c, ?_, ?_, hc, hr⟩
    · rw [h1.cellAt (k * 2) (by omega), (flatJ_at cs ps hl' k hk).1, hv]
    · rw [h1.cellAt (k * 2 + 1) (by omega), (flatJ_at cs ps hl' k hk).2]
theorem OwnJ.reads {lo hi : Nat} {w : World} {a : Option Addr} {n c : Nat} {ps : List (List Int × Int)} (h : OwnJ lo hi w (.slice a n c) ps) : ReadsJ w a ps := by
  obtain ⟨a', c', e, hr, _, _⟩ := h.slice
  cases e
  exact hr
/-- One plane more. -/
theorem OwnK.snoc {lo hi hi' : Nat} {w : World} {v c : Value} {ps : List (List Int × Int)} {cs : List Value} {x : List Int × Int} (hr : RowsOf lo hi w cs (ps.map Prod.fst)) (ho : w.ownsRow lo 46 2 v (ps.length + 1) (flatJ cs ps ++ [c, .int .i64 x.2]))
    (hv : ∀ g, v.ownBlock = some g → g < hi') (hc : OwnI hi hi' w c x.1) (h1 : lo ≤ hi) (h2 : hi ≤ hi') : OwnK lo hi' w v (ps ++ [x]) (cs ++ [c]) := by
  have hl : cs.length = ps.length := by rw [hr.1, List.length_map]
  refine ⟨?_, hv, ?_⟩
  · rw [flatJ_snoc cs ps hl, List.length_append]; exact ho
  · rw [List.map_append]
    exact hr.snoc hc h1 h2
/-- The cells of planes that are not there yet. -/
def zerosJ : Nat → List Value
  | 0 => []
  | m + 1 => .slice none 0 0 :: .int .i64 0 :: zerosJ m
theorem zerosJ_length (m : Nat) : (zerosJ m).length = m * 2 := by
  induction m with
  | zero => rfl
  | succ m ih => simp only [zerosJ, List.length_cons, ih]; omega
theorem zerosJ_set (F : List Value) (m n : Nat) (h : F.length = n) (v u : Value) : ((F ++ zerosJ (m + 1)).set n v).set (n + 1) u = F ++ [v, u] ++ zerosJ m := by
  subst h
  rw [List.set_append, if_neg (by omega), Nat.sub_self, zerosJ, List.set_cons_zero, List.set_append, if_neg (by omega), show F.length + 1 - F.length = 1 by omega, List.set_cons_succ, List.set_cons_zero, List.append_assoc]
  rfl
theorem take_snocJ (ps : List (List Int × Int)) (k : Nat) (h : k < ps.length) : ps.take (k + 1) = ps.take k ++ [ps.getD k ([], 0)] := by
  rw [List.take_succ_eq_append_getElem h, List.getD_eq_getElem?_getD, List.getElem?_eq_getElem h]; rfl
/-- A slice made at its whole length whose first k planes are filled. -/
def OwnPartJ (lo g : Nat) (w : World) (ps : List (List Int × Int)) (k : Nat) : Prop :=
  ∃ cs : List Value, w.ownsRow lo 46 2 (.slice (some ⟨g, 0, none⟩) ps.length ps.length) ps.length (flatJ cs (ps.take k) ++ zerosJ (ps.length - k)) ∧ RowsOf lo w.heap.size w cs ((ps.take k).map Prod.fst) ∧ k ≤ ps.length
theorem OwnPartJ.start {lo g : Nat} {w : World} {ps : List (List Int × Int)} (h : w.ownsRow lo 46 2 (.slice (some ⟨g, 0, none⟩) ps.length ps.length) ps.length (zerosJ ps.length)) : OwnPartJ lo g w ps 0 :=
  ⟨[], by simpa [flatJ] using h, by simpa using RowsOf.nil _ _ _, Nat.zero_le _⟩
theorem OwnPartJ.done {lo g : Nat} {w : World} {ps : List (List Int × Int)} (h : OwnPartJ lo g w ps ps.length) : OwnJ lo w.heap.size w (.slice (some ⟨g, 0, none⟩) ps.length ps.length) ps := by
  obtain ⟨cs, h1, h2, _⟩ := h
  rw [List.take_length] at h1 h2
  rw [Nat.sub_self] at h1
  exact ⟨cs, by simpa [zerosJ] using h1, fun g' hg => (h1.lt g' hg).2, h2⟩
theorem OwnPartJ.store {lo g : Nat} {w w2 : World} {ps : List (List Int × Int)} {k : Nat} {v : Value} (h : OwnPartJ lo g w ps k) (hlt : k < ps.length) (hb : Below w.heap.size w w2) (hv : OwnI w.heap.size w2.heap.size w2 v (ps.getD k ([], 0)).1) :
    (w2.cell? ⟨g, k * 2, none⟩ = some (.slice none 0 0) ∧ w2.frozen? ⟨g, k * 2, none⟩ = false ∧ w2.cell? ⟨g, k * 2 + 1, none⟩ = some (.int .i64 0) ∧ w2.frozen? ⟨g, k * 2 + 1, none⟩ = false) ∧
      OwnPartJ lo g ((w2.setCell ⟨g, k * 2, none⟩ v).setCell ⟨g, k * 2 + 1, none⟩ (.int .i64 (ps.getD k ([], 0)).2)) ps (k + 1) := by
  obtain ⟨cs, h1, h2, h3⟩ := h
  have hg := (h1.lt g rfl)
  have hcl : cs.length = k := by have := h2.1; simp at this; omega
  have htl : (ps.take k).length = k := by rw [List.length_take]; omega
  have hF : (flatJ cs (ps.take k)).length = k * 2 := by rw [flatJ_length _ _ (by omega), htl]
  have h1' := ownsRow_block (w' := w2) h1 (fun g' hg' => hb.block g' (h1.lt g' hg').2)
  have hst := ((h1'.stored (k * 2) v).1.stored (k * 2 + 1) (.int .i64 (ps.getD k ([], 0)).2)).1
  have hm : ps.length - k = (ps.length - (k + 1)) + 1 := by omega
  have hzl := zerosJ_length (ps.length - k)
  refine ⟨⟨?_, h1'.frozenAt _, ?_, h1'.frozenAt _⟩, cs ++ [v], ?_, ?_, by omega⟩
  · rw [h1'.cellAt (k * 2) (by omega), List.getElem?_append_right (by omega), hF, Nat.sub_self, hm]; rfl
  · rw [h1'.cellAt (k * 2 + 1) (by omega), List.getElem?_append_right (by omega), hF, show k * 2 + 1 - k * 2 = 1 by omega, hm]; rfl
  · rw [hm, zerosJ_set _ _ _ hF] at hst
    rw [take_snocJ ps k hlt, flatJ_snoc _ _ (by omega)]
    exact hst
  · have hsz : ((w2.setCell ⟨g, k * 2, none⟩ v).setCell ⟨g, k * 2 + 1, none⟩ (.int .i64 (ps.getD k ([], 0)).2)).heap.size = w2.heap.size := by simp [World.setCell]
    rw [take_snocJ ps k hlt, hsz, List.map_append]
    have hty : ∀ (c : Value) (r : List Int) (l' h' : Nat), OwnI l' h' w2 c r → ∀ g', c.ownBlock = some g' → g' ≠ g := fun c r l' h' ho g' hg' e => by
      subst e
      exact ownsRow_ne ho.1 h1' (by decide) hg' rfl
    have hkeep : ∀ g', g' ≠ g → ((w2.setCell ⟨g, k * 2, none⟩ v).setCell ⟨g, k * 2 + 1, none⟩ (.int .i64 (ps.getD k ([], 0)).2)).heap[g']? = w2.heap[g']? := fun g' e => (Below.heap_setCell _ _ _ _ e).trans (Below.heap_setCell _ _ _ _ e)
    have k1 := (h2.below hb).keep (w' := (w2.setCell ⟨g, k * 2, none⟩ v).setCell ⟨g, k * 2 + 1, none⟩ (.int .i64 (ps.getD k ([], 0)).2)) fun g' _ _ _ ⟨i, hi, he⟩ => hkeep g' (hty _ _ _ _ ((h2.below hb).2.1 i hi) g' he)
    exact k1.snoc (hv.block fun g' he => hkeep g' (hty _ _ _ _ hv g' he)) (by omega) hb.size
/-- What a function returns: planes that it made, and a truth value. -/
def RetJB (ps : List (List Int × Int)) (ok : Bool) (w : World) (e : Ending) (w' : World) : Prop := ∃ v, e = .returned (.tuple #[v, .bool ok]) ∧ OwnJ w.heap.size w'.heap.size w' v ps ∧ Below w.heap.size w w'
end Go.Proofs.Ytoephhhofkmgjab.own

namespace Go.Proofs.Ytoephhhofkmgjab.own
open Go.RowKit

def RetPBB (zs : List Int) (b : Int) (r ok : Bool) (w : World) (e : Ending) (w' : World) : Prop := ∃ v, e = .returned (.tuple #[.agg #[v, .int .i64 b], .bool r, .bool ok]) ∧ OwnI w.heap.size w'.heap.size w' v zs ∧ Below w.heap.size w w'
def RetIBB (zs : List Int) (r ok : Bool) (w : World) (e : Ending) (w' : World) : Prop := ∃ v, e = .returned (.tuple #[v, .bool r, .bool ok]) ∧ OwnI w.heap.size w'.heap.size w' v zs ∧ Below w.heap.size w w'
def RetINB (zs : List Int) (n : Int) (ok : Bool) (w : World) (e : Ending) (w' : World) : Prop := ∃ v, e = .returned (.tuple #[v, .int .i64 n, .bool ok]) ∧ OwnI w.heap.size w'.heap.size w' v zs ∧ Below w.heap.size w w'
def RetPIB (zs : List Int) (b : Int) (ys : List Int) (ok : Bool) (w : World) (e : Ending) (w' : World) : Prop := ∃ v u, e = .returned (.tuple #[.agg #[v, .int .i64 b], u, .bool ok]) ∧ OwnI w.heap.size w'.heap.size w' v zs ∧ OwnI w.heap.size w'.heap.size w' u ys ∧ (∀ g, v.ownBlock = some g → u.ownBlock ≠ some g) ∧ Below w.heap.size w w'
def RetNNNB (a b c : Int) (ok : Bool) (w : World) (e : Ending) (w' : World) : Prop := e = .returned (.tuple #[.int .i64 a, .int .i64 b, .int .i64 c, .bool ok]) ∧ Below w.heap.size w w'
def RetGB (rows : List (List Int)) (ok : Bool) (w : World) (e : Ending) (w' : World) : Prop := ∃ v, e = .returned (.tuple #[v, .bool ok]) ∧ OwnG w.heap.size w'.heap.size w' v rows ∧ Below w.heap.size w w'
end Go.Proofs.Ytoephhhofkmgjab.own

namespace Go.Proofs.Ytoephhhofkmgjab.own
open Go.RowKit

theorem cell_set {w : World} {b o : Nat} {x : Value} (h : w.cell? ⟨b, o, none⟩ = some x) {a : Addr} (hb : b ≠ a.block) (u : Value) : (w.setCell a u).cell? ⟨b, o, none⟩ = some x :=
  (World.cell?_of_block (Below.heap_setCell _ _ _ _ hb)).trans h
theorem fro_set {w : World} {b o : Nat} (h : w.frozen? ⟨b, o, none⟩ = false) {a : Addr} (hb : b ≠ a.block) (u : Value) : (w.setCell a u).frozen? ⟨b, o, none⟩ = false :=
  (World.frozen?_of_block (Below.heap_setCell _ _ _ _ hb)).trans h
theorem OwnS.set {lo hi : Nat} {w : World} {p l : Value} {rows : List (List Int)} {zs : List Int} (h : OwnS lo hi w p l rows zs) {a : Addr} (ha : a.block < lo) (u : Value) : OwnS lo hi (w.setCell a u) p l rows zs := by
  obtain ⟨cs, h1, h2, h3⟩ := h
  exact ⟨cs, ⟨ownsRow_block h1.1 (fun g hg => Below.heap_setCell _ _ _ _ (by have := h1.1.lt g hg; omega)), h1.2.1, h1.2.2.keep fun g k1 k2 k3 _ => Below.heap_setCell _ _ _ _ (by omega)⟩, h2.set ha u, h3⟩
end Go.Proofs.Ytoephhhofkmgjab.own

namespace Go.Proofs.Ytoephhhofkmgjab.own
open Go.RowKit
set_option linter.unusedVariables false

/-- v and l, the points and labels in the box B, are made since lo (not B), the points themselves behind B. -/
def Out (lo B hi : Nat) (w : World) (v l : Value) (cs : List Value) (rows : List (List Int)) (zs : List Int) : Prop :=
  w.ownsRow lo 22 1 v rows.length cs ∧ (∀ g, v.ownBlock = some g → g ≠ B ∧ g < hi) ∧ RowsOf (B + 1) hi w cs rows ∧
    w.ownsRow lo 3 1 l zs.length (zs.map (Value.int .i64)) ∧ (∀ g, l.ownBlock = some g → g ≠ B ∧ g < hi) ∧ (∀ g, l.ownBlock = some g → ¬ Blk cs rows.length g)

section
variable {lo B hi : Nat} {w W W3 : World} {v l : Value} {cs : List Value} {rows : List (List Int)} {zs : List Int}
theorem Out.below (h : Out lo B hi w v l cs rows zs) (hb : Below w.heap.size w W) : Out lo B hi W v l cs rows zs :=
  ⟨ownsRow_block h.1 fun g hg => hb.block g (h.1.lt g hg).2, h.2.1, h.2.2.1.below hb, ownsRow_block h.2.2.2.1 fun g hg => hb.block g (h.2.2.2.1.lt g hg).2, h.2.2.2.2⟩
theorem Out.set (h : Out lo B hi w v l cs rows zs) (o : Nat) (u : Value) : Out lo B hi (w.setCell ⟨B, o, none⟩ u) v l cs rows zs :=
  ⟨ownsRow_block h.1 fun g hg => Below.heap_setCell _ _ _ _ (h.2.1 g hg).1, h.2.1, h.2.2.1.keep fun g k1 _ _ _ => Below.heap_setCell _ _ _ _ (by simp; omega), ownsRow_block h.2.2.2.1 fun g hg => Below.heap_setCell _ _ _ _ (h.2.2.2.2.1 g hg).1, h.2.2.2.2⟩
theorem Out.toS (h : Out lo B hi w v l cs rows zs) (hl : lo ≤ B + 1) : OwnS lo hi w v l rows zs :=
  ⟨cs, ⟨h.1, fun g e => (h.2.1 g e).2, h.2.2.1.mono hl (Nat.le_refl _)⟩, ⟨h.2.2.2.1, fun g e => (h.2.2.2.2.1 g e).2⟩, h.2.2.2.2.2⟩

theorem grown_block {O : Obj} {row : Option Nat} (hg : (W.alloc O).grownBy W3 row) (g : Nat) (h1 : g < W.heap.size) (h2 : row ≠ some g) : W3.heap[g]? = W.heap[g]? := by
  rw [hg.block g (by simp; omega) (fun e => h2 e.symm), Below.heap_alloc W O g h1]

theorem Out.row {O : Obj} {c : Value} {r : List Int} {g' cap : Nat} (h : Out lo B hi W v l cs rows zs) (hc : OwnI hi W.heap.size W c r) (hhi : hi ≤ W.heap.size) (hB : B < hi) (hg : (W.alloc O).grownBy W3 v.ownBlock)
    (hown : W3.ownsRow lo 22 1 (.slice (some ⟨g', 0, none⟩) (rows.length + 1) cap) (rows.length + 1) (cs ++ [c])) (hat : v.ownBlock = some g' ∨ g' = W.heap.size + 1) (hlt : g' < W3.heap.size) :
    Out lo B W3.heap.size W3 (.slice (some ⟨g', 0, none⟩) (rows.length + 1) cap) l (cs ++ [c]) (rows ++ [r]) zs := by
  have hs : W.heap.size ≤ W3.heap.size := Nat.le_trans (by simp) hg.size
  obtain ⟨h1, h2, h3, h4, h5, h6⟩ := h
  have hsn := h3.snoc hc (by omega) hhi
  refine ⟨by simpa using hown, fun g e => ?_, ?_, ownsRow_block h4 fun g hg' => grown_block hg g (h4.lt g hg').2 (ownsRow_ne h4 h1 (by decide) hg'), fun g e => ⟨(h5 g e).1, by have := (h5 g e).2; omega⟩, fun g e hb => ?_⟩
  · obtain rfl : g' = g := by simpa [Value.ownBlock] using e
    refine ⟨fun e2 => ?_, hlt⟩
    rcases hat with ha | ha
    · exact (h2 _ ha).1 e2
    · omega
  · refine (hsn.keep fun g hl hh hgs hbl => grown_block hg g hgs (fun e => ?_)).mono (Nat.le_refl _) hs
    obtain ⟨i, hi', hb⟩ := hbl
    exact ownsRow_ne (hsn.2.1 i hi').1 h1 (by decide) hb e
  · obtain ⟨i, hi', hb2⟩ := hb
    by_cases e2 : i < rows.length
    · rw [getD_snoc_lt _ _ _ _ (by rw [h3.1]; exact e2)] at hb2
      exact h6 g e ⟨i, e2, hb2⟩
    · have : i = rows.length := by simp at hi'; omega
      rw [getD_snoc_eq _ _ _ _ (by rw [h3.1]; exact this)] at hb2
      have k1 := hc.lt hb2
      have k2 := (h5 g e).2
      omega

theorem Out.label {O : Obj} {z : Int} {g' cap : Nat} (h : Out lo B hi W v l cs rows zs) (hhi : hi ≤ W.heap.size) (hB : B < hi) (hg : (W.alloc O).grownBy W3 l.ownBlock)
    (hown : W3.ownsRow lo 3 1 (.slice (some ⟨g', 0, none⟩) (zs.length + 1) cap) (zs.length + 1) (zs.map (Value.int .i64) ++ [.int .i64 z])) (hat : l.ownBlock = some g' ∨ g' = W.heap.size + 1) (hlt : g' < W3.heap.size) :
    Out lo B W3.heap.size W3 v (.slice (some ⟨g', 0, none⟩) (zs.length + 1) cap) cs rows (zs ++ [z]) := by
  have hs : W.heap.size ≤ W3.heap.size := Nat.le_trans (by simp) hg.size
  obtain ⟨h1, h2, h3, h4, h5, h6⟩ := h
  refine ⟨ownsRow_block h1 fun g hg' => grown_block hg g (h1.lt g hg').2 (ownsRow_ne h1 h4 (by decide) hg'), fun g e => ⟨(h2 g e).1, by have := (h2 g e).2; omega⟩, (h3.keep fun g hl hh hgs hbl => grown_block hg g hgs (fun e => ?_)).mono (Nat.le_refl _) (by omega), by simpa using hown, fun g e => ?_, fun g e hb => ?_⟩
  · obtain ⟨i, hi', hb⟩ := hbl
    exact h6 g e ⟨i, hi', hb⟩
  · obtain rfl : g' = g := by simpa [Value.ownBlock] using e
    refine ⟨fun e2 => ?_, hlt⟩
    rcases hat with ha | ha
    · exact (h5 _ ha).1 e2
    · omega
  · obtain rfl : g' = g := by simpa [Value.ownBlock] using e
    rcases hat with ha | ha
    · exact h6 _ ha hb
    · obtain ⟨i, hi', hb2⟩ := hb
      have := (h3.2.1 i hi').lt hb2
      omega
end
end Go.Proofs.Ytoephhhofkmgjab.own
