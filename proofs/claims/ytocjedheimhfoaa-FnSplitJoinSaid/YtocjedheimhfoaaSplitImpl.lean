/- The walks of impl.partsOf, of its closure and of impl.SplitString: the slice handed back is the call's own and holds the pieces. -/
import Derived.RangeFuncBox
import Derived.RangeFuncLeaves
import Derived.Shelf.Abstract
import Derived.WalkKit
import Derived.WalkSpells
import Derived.OwnWalkIn
import Derived.TacticsInMore
import Derived.LoopNIn
import Derived.LoopIn
import Derived.Maps.AppendAt
import Derived.Maps.OwnIn
import Derived.Sort.QuietIn
import Derived.Outline
import Derived.Lib.Hide
import Derived.Test.YtocjedheimhfoaaRows
import Derived.Test.YtocjedheimhfoaaPlainSplit
namespace Go.Proofs.Ytocjedheimhfoaa.splitimpl
open Go Go.RowKit Go.Shelf psplit
set_option linter.unusedVariables false

attribute [local go_sem] Oper.semAt_some

/-- Two blocks lie as they lay. -/
def KeepTwo (p q : Nat) (W W' : World) : Prop := W'.heap[p]? = W.heap[p]? ∧ W'.heap[q]? = W.heap[q]?
theorem KeepTwo.refl (p q : Nat) (W : World) : KeepTwo p q W W := ⟨rfl, rfl⟩
theorem KeepTwo.trans {p q : Nat} {A B C : World} (h : KeepTwo p q A B) (k : KeepTwo p q B C) : KeepTwo p q A C := ⟨k.1.trans h.1, k.2.trans h.2⟩
theorem KeepTwo.drewN {p q : Nat} {A B : World} (h : KeepTwo p q A B) (n : Nat) : KeepTwo p q A (B.drewN n) := h
theorem KeepTwo.cell1 {p q : Nat} {A B : World} (h : KeepTwo p q A B) (o : Nat) : B.cell? ⟨p, o, none⟩ = A.cell? ⟨p, o, none⟩ := World.cell?_of_block (w := A) h.1
theorem KeepTwo.cell2 {p q : Nat} {A B : World} (h : KeepTwo p q A B) (o : Nat) : B.cell? ⟨q, o, none⟩ = A.cell? ⟨q, o, none⟩ := World.cell?_of_block (w := A) h.2

set_option maxRecDepth 100000 in
set_option maxHeartbeats 2000000 in
theorem closure_in (n : Nat) (hn : 1 ≤ n) (l Bs Bc : Nat) (s : ByteArray) (b : UInt8) (hs : s.size ≤ 1048576) (J Jx : List ByteArray → World → Prop)
    (hJd : ∀ pre W k, J pre W → J pre (W.drewN k))
    (hY : ∀ pre x W, J pre W → pre.length < (pieces s b).length → YieldAt Fence.wide (n - 1) Try.prog l #[.string x] W fun e W' =>
      (e = .returned (.bool true) ∧ J (pre ++ [x]) W' ∧ KeepTwo Bs Bc W W') ∨ (e = .returned (.bool false) ∧ Jx (pre ++ [x]) W'))
    (W : World) (hcs : W.cell? ⟨Bs, 0, none⟩ = some (.string s)) (hcb : W.cell? ⟨Bc, 0, none⟩ = some (.int .u8 b.toNat)) (h0 : J [] W) :
    CallsIn Fence.wide n Try.prog 36 #[.func (.yield l) #[] #[], .pointer (some ⟨Bs, 0, none⟩), .pointer (some ⟨Bc, 0, none⟩)] W fun e W' => (∃ v, e = .returned v) ∧
      ((∃ ys, ys = pieces s b ∧ J ys W') ∨ (∃ pre, pre <+: pieces s b ∧ Jx pre W')) := by
  refine callsIn_of_wp Try.func36 rfl trivial ?_ rfl
  simp only [Try.ntmps36, List.size_toArray, List.length_cons, List.length_nil, Nat.reduceAdd, Nat.reduceSub, Array.replicate_succ, Array.replicate_zero, List.push_toArray, List.append_toArray, List.nil_append, List.cons_append]
  gi_wp2
  gi_loopw [4, 8] (fun f i wr => ∃ k : Nat, k ≤ s.size ∧ i = .int .i64 k ∧ f = .int .i64 (st s b k).2 ∧ J (st s b k).1 wr ∧ KeepTwo Bs Bc W wr)
    (fun _ i _ => s.size - (intOf i).toNat)
  case atStart => exact ⟨0, Nat.zero_le _, rfl, rfl, h0, KeepTwo.refl _ _ _⟩
  case round =>
    obtain ⟨k, hk, rfl, rfl, hJs, hnx⟩ := hrel
    have hcs1 : wr.cell? ⟨Bs, 0, none⟩ = some (.string s) := (hnx.cell1 0).trans hcs
    have hcb1 : wr.cell? ⟨Bc, 0, none⟩ = some (.int .u8 b.toNat) := (hnx.cell2 0).trans hcb
    have hfk := from_le s b k
    have hck := count_le s b k
    have HP := Lib.hid (st_pieces s b k hk)
    have HL := Lib.hid (st_short s b k hk)
    have HJ := Lib.hid hJs
    clear hJs
    by_cases hlt : k < s.size
    · by_cases hbk : s[k] = b
      · have hb' : (((s[k].toNat : Int)) == (b.toNat : Int)) = true := by rw [hbk]; simp
        have HS := Lib.hid (st_hit s b k hlt hbk)
        have HP1 := Lib.hid (st_pieces s b (k + 1) hlt)
        clear hbk
        gi_wp2
        gi_quiet (fail)
        obtain ⟨fn, tmps, assign, body, hy, hR⟩ := hY (st s b k).1 (s.extract (st s b k).2 k) (wr.drewN nq) (hJd _ _ _ HJ.out) HL.out
        have HR := Lib.hid hR
        clear hR
        gi_wp2
        refine HR.out.mono ?_
        rintro e W3 (⟨rfl, hJ3, hk3⟩ | ⟨rfl, hJx3⟩)
        · have hnx3 : KeepTwo Bs Bc W W3 := (hnx.drewN nq).trans hk3
          gi_wp2
          go_roundw
          case rel => exact ⟨k + 1, by omega, by simp, by rw [HS.out]; simp, by rw [HS.out]; exact hJ3, hnx3⟩
          case measure => simp [intOf]; omega
        · gi_wp2
          refine bodyPost_ret (results_none rfl _ _ _) rfl ?_
          refine ⟨⟨_, rfl⟩, .inr ⟨_, ?_, hJx3⟩⟩
          have := HP1.out
          rw [HS.out] at this
          exact this
      · have hb' : (((s[k].toNat : Int)) == (b.toNat : Int)) = false := by
          rw [beq_eq_false_iff_ne]
          intro e
          exact hbk (UInt8.toNat_inj.1 (by omega))
        have HS := Lib.hid (st_miss s b k hlt hbk)
        clear hbk
        gi_wp2
        gi_quiet (fail)
        gi_wp2
        go_roundw
        case rel => exact ⟨k + 1, by omega, by simp, by rw [HS.out], by rw [HS.out]; exact hJd _ _ _ HJ.out, hnx.drewN _⟩
        case measure => simp [intOf]; omega
    · obtain rfl : k = s.size := by omega
      obtain ⟨fn, tmps, assign, body, hy, hR⟩ := hY (st s b s.size).1 (s.extract (st s b s.size).2 s.size) wr HJ.out HL.out
      have HR := Lib.hid hR
      clear hR
      gi_wp2
      refine HR.out.mono ?_
      rintro e W3 (⟨rfl, hJ3, hk3⟩ | ⟨rfl, hJx3⟩)
      · gi_wp2
        go_end0
        exact ⟨⟨_, rfl⟩, .inl ⟨_, rfl, hJ3⟩⟩
      · gi_wp2
        go_end0
        exact ⟨⟨_, rfl⟩, .inr ⟨_, List.prefix_rfl, hJx3⟩⟩

theorem infoStr : (Try.prog.info? 9).map (fun i => (i.zero, i.size, i.bytes)) = some (some (.string ByteArray.empty), 1, 16) := by kernel_rfl

theorem parts_in (n : Nat) (s : ByteArray) (b : Int) (w : World) :
    CallsIn Fence.wide n Try.prog 27 #[.string s, .int .u8 b] w fun e w' => e = .returned (.func (.func 36) #[] #[.pointer (some ⟨w.heap.size, 0, none⟩), .pointer (some ⟨w.heap.size + 1, 0, none⟩)]) ∧ w' = (w.alloc (.cells #[.string s] 9)).alloc (.cells #[.int .u8 b] 5) := by
  refine callsIn_of_wp Try.func27 rfl trivial ?_ rfl
  simp only [Try.ntmps27, List.size_toArray, List.length_cons, List.length_nil, Nat.reduceAdd, Nat.reduceSub, Array.replicate_succ, Array.replicate_zero, List.push_toArray, List.append_toArray, List.nil_append, List.cons_append]
  gi_wp2
  go_ret
  exact ⟨rfl, rfl⟩

theorem stops (n : Nat) (hn : 1 ≤ n) (Bs Bc : Nat) (s : ByteArray) (b : UInt8) (hs : s.size ≤ 1048576) (w : World) (hBs : Bs < w.heap.size) (hBc : Bc < w.heap.size)
    (hcs : w.cell? ⟨Bs, 0, none⟩ = some (.string s)) (hcb : w.cell? ⟨Bc, 0, none⟩ = some (.int .u8 b.toNat)) :
    SeqStopsK Fence.wide n Try.prog 36 #[.pointer (some ⟨Bs, 0, none⟩), .pointer (some ⟨Bc, 0, none⟩)] (fun x : ByteArray => #[Value.string x]) (KeepTwo Bs Bc) (fun ys => ys = pieces s b) (fun pre => pre <+: pieces s b) (pieces s b).length w := fun l J Jx W hW hJ _ hY h0 =>
  closure_in n hn l Bs Bc s b hs J Jx (fun pre W k h => hJ pre W _ none h ⟨rfl, rfl, rfl, Nat.le_refl _, fun _ _ _ => rfl⟩ (fun _ e => by cases e)) hY W ((hW.cell (p := ⟨Bs, 0, none⟩) hBs).trans hcs) ((hW.cell (p := ⟨Bc, 0, none⟩) hBc).trans hcb) h0

set_option maxRecDepth 100000 in
set_option maxHeartbeats 2000000 in
theorem split_in (n : Nat) (hn : 4 ≤ n) (s : ByteArray) (b : UInt8) (w : World) (hs : s.size ≤ 4000) :
    CallsIn Fence.wide n Try.prog 10 #[.string s, .string ⟨#[b]⟩] w fun e W' => ∃ v, e = .returned (.tuple #[v, .bool true]) ∧ W'.ownsRow w.heap.size 9 1 v (pieces s b).length ((pieces s b).map Value.string) ∧ Below w.heap.size w W' := by
  have h1 : 1 ≤ n := by omega
  obtain ⟨i0, hi, hz0, hz1, hz2⟩ := info_parts infoStr
  refine callsIn_of_wp_marks Try.func10 rfl trivial ?_ rfl
  simp only [Try.ntmps10, List.size_toArray, List.length_cons, List.length_nil, Nat.reduceAdd, Nat.reduceSub, Array.replicate_succ, Array.replicate_zero, List.push_toArray, List.append_toArray, List.nil_append, List.cons_append]
  have hd : decide (4000 < (s.size : Int)) = false := by simp; omega
  have hb0 : ((ByteArray.mk #[b])[0]'(by show 0 < 1; omega)) = b := rfl
  gi_wp2_with (refine ⟨trivial, ?_⟩; gi_at_call 27; refine (parts_in (n - 1) _ _ _).mono ?_; rintro e w' ⟨rfl, rfl⟩)
  have hown0 := World.ownsRow_made (base := w.heap.size) (e := 9) (size := 1) w #[] 0 (Nat.le_refl _) (by unfold maxLen; omega) rfl
  have bO := Boxed.new (w.alloc (.cells #[] 9)) 26 (.slice (some ⟨w.heap.size, 0, none⟩) 0 0)
  rw [World.size_alloc] at bO
  obtain ⟨W0, hW0⟩ : ∃ W0, ((((w.alloc (.cells #[] 9)).alloc (.cells #[.slice (some ⟨w.heap.size, 0, none⟩) 0 0] 26)).alloc (.cells #[.string s] 9)).alloc (.cells #[.int .u8 b.toNat] 5)) = W0 := ⟨_, rfl⟩
  have hz : W0.heap.size = w.heap.size + 4 := by rw [← hW0]; simp
  have hB0 : Below w.heap.size w W0 := by rw [← hW0]; exact ((((Below.refl _ w).alloc (Nat.le_refl _) _).alloc (by simp) _).alloc (by simp; omega) _).alloc (by simp; omega) _
  have hS0 : W0.heap[w.heap.size + 2]? = some (.cells #[.string s] 9 (0, 0)) := by
    rw [← hW0, Below.heap_alloc _ _ _ (by simp)]
    have := World.alloc_heap_new ((w.alloc (.cells #[] 9)).alloc (.cells #[.slice (some ⟨w.heap.size, 0, none⟩) 0 0] 26)) (.cells #[.string s] 9)
    rwa [World.size_alloc, World.size_alloc] at this
  have hC0 : W0.heap[w.heap.size + 3]? = some (.cells #[.int .u8 b.toNat] 5 (0, 0)) := by
    rw [← hW0]
    have := World.alloc_heap_new (((w.alloc (.cells #[] 9)).alloc (.cells #[.slice (some ⟨w.heap.size, 0, none⟩) 0 0] 26)).alloc (.cells #[.string s] 9)) (.cells #[.int .u8 b.toNat] 5)
    rwa [World.size_alloc, World.size_alloc, World.size_alloc] at this
  have hR0 : W0.ownsRow w.heap.size 9 1 (.slice (some ⟨w.heap.size, 0, none⟩) 0 0) 0 [] := by rw [← hW0]; exact ((hown0.alloc _).alloc _).alloc _
  have bO0 : Boxed W0 (w.heap.size + 1) 26 (.slice (some ⟨w.heap.size, 0, none⟩) 0 0) := by rw [← hW0]; exact (bO.alloc _).alloc _
  rw [hW0]
  clear hown0 bO hW0
  have HI := Lib.hid hB0
  refine wpIn_rangeFunc_ownG (F := Fence.wide) rfl h1 (gf := 36) (lb := #[.pointer (some ⟨w.heap.size + 1 + 1, 0, none⟩), .pointer (some ⟨w.heap.size + 1 + 1 + 1, 0, none⟩)]) rfl trivial (enters_of Try.func36 (by kernel_rfl) rfl)
    (stops (n - 1) (by omega) (w.heap.size + 2) (w.heap.size + 3) s b (by omega) W0 (by omega) (by omega) (by simp [World.cell?, hS0]) (by simp [World.cell?, hC0])) (fun h k => h.trans k) ?keep (Below.refl _ _) (fun _ => rfl)
    (fun pre W => (∃ v, Boxed W (w.heap.size + 1) 26 v ∧ W.ownsRow w.heap.size 9 1 v pre.length (pre.map Value.string) ∧ (v.ownBlock ≠ some (w.heap.size + 2) ∧ v.ownBlock ≠ some (w.heap.size + 3))) ∧
      (W.heap[w.heap.size + 2]? = some (.cells #[.string s] 9 (0, 0)) ∧ W.heap[w.heap.size + 3]? = some (.cells #[.int .u8 b.toNat] 5 (0, 0))) ∧ Below w.heap.size w W)
    (fun _ _ _ => False) ?own (fun _ _ _ _ _ hs _ _ => hs) ⟨⟨_, bO0, hR0, by simp [Value.ownBlock]⟩, ⟨hS0, hC0⟩, hB0⟩
    (fun x => { tmps := #[.string s, .string ⟨#[b]⟩, undef, undef, .slice none 0 0, .bool false, .pointer (some ⟨w.heap.size + 1, 0, none⟩), .string x, .string s, .int .i64 s.size, .bool false, .bool false, .string ⟨#[b]⟩, .int .i64 1, .bool false, .bool false, undef,
        .slice (some ⟨w.heap.size, 0, none⟩) 0 0, .string s, .string ⟨#[b]⟩, .int .u8 b.toNat, .func (.func 36) #[] #[.pointer (some ⟨w.heap.size + 1 + 1, 0, none⟩), .pointer (some ⟨w.heap.size + 1 + 1 + 1, 0, none⟩)], .string x, undef, undef, undef, undef, undef], defers := [] }) ?assign ?body ?done ?stop
  case keep =>
    intro W l o o' hl hlo hc _
    exact ⟨World.putObj_heap_other (by omega), World.putObj_heap_other (by omega)⟩
  case own =>
    refine OwnFrom.and (Own.from (holdsRow_own w.heap.size (w.heap.size + 1) 26 9 1 (fun pre : List ByteArray => pre.length) (fun pre => pre.map Value.string) (fun pre v => v.ownBlock ≠ some (w.heap.size + 2) ∧ v.ownBlock ≠ some (w.heap.size + 3))) _) (OwnFrom.and ?_ (ownFrom_below (by omega) (by omega)))
    intro pre W W' row hI hg hr
    have h2 := (Array.getElem?_eq_some_iff.1 hI.1).1
    have h3 := (Array.getElem?_eq_some_iff.1 hI.2).1
    exact ⟨(hg.block _ h2 (fun e => by have := (hr _ e.symm).1; omega)).trans hI.1, (hg.block _ h3 (fun e => by have := (hr _ e.symm).1; omega)).trans hI.2⟩
  case assign =>
    intro l x W K hK
    gi_wp2
    exact hK
  case body =>
    rintro l pre x W ⟨⟨v, hv, hrow, hnb1, hnb2⟩, ⟨hS, hC⟩, hB⟩ hlt
    have hc := hv.cell
    have hpl := pieces_length s b
    have hWs := (Array.getElem?_eq_some_iff.1 hC).1
    have HS := Lib.hid hS
    have HC := Lib.hid hC
    have HB := Lib.hid hB
    have HN1 := Lib.hid hnb1
    have HN2 := Lib.hid hnb2
    clear hS hC hB hnb1 hnb2
    gi_wp2_with (gi_at_builtin; refine wpListIn_append_own_at _ rfl _ _ 26 rfl w.heap.size 9 i0 (.string ByteArray.empty) 1 16 Try.underlying26 hi hz0 hz1 hz2 rfl (by decide) _ _ _ rfl (hrow.alloc _) ⟨W.heap.size, 0, none⟩ 1 1 [.string x] rfl rfl (cell_one_new _ _ _) (by simp [Value.oneCell']) (by unfold maxLen; omega) (by omega) (by simp; omega) ?_; intro v' w1 hown' hgrow _ hat; obtain ⟨g', cap', rfl⟩ := ownsRow_succ hown'; obtain ⟨hv1, hv2, hr2, hk2, hb2⟩ := hv.appended (by decide) hrow HB.out.size (Nat.le_succ _) hown' hgrow; have hc1 := hv1.cell; have hf1 := hv1.frozen)
    have hk2' : ∀ k, k ≠ w.heap.size + 1 → some k ≠ v.ownBlock → k < W.heap.size → (w1.setCell ⟨w.heap.size + 1, 0, none⟩ (.slice (some ⟨g', 0, none⟩) (pre.length + 1) cap')).heap[k]? = W.heap[k]? := by
      intro k h1 h2 h3
      rw [Below.heap_setCell _ _ _ _ h1, hgrow.block k (by simp; omega) h2, Below.heap_alloc _ _ _ h3]
    have e2 := hk2' (w.heap.size + 2) (by omega) (fun e => HN1.out e.symm) (by omega)
    have e3 := hk2' (w.heap.size + 3) (by omega) (fun e => HN2.out e.symm) (by omega)
    refine ⟨hk2.from _, ⟨e2, e3⟩, ⟨_, hv2, by simpa using hr2, ?_, ?_⟩, ⟨e2.trans HS.out, e3.trans HC.out⟩, HB.out.trans hb2⟩
    · intro e
      rcases hat with hat | hat
      · exact HN1.out (hat ▸ e)
      · rw [hat] at e; simp at e; omega
    · intro e
      rcases hat with hat | hat
      · exact HN2.out (hat ▸ e)
      · rw [hat] at e; simp at e; omega
  case done =>
    rintro D ys W hD rfl ⟨⟨v, hv, hrow, _⟩, _, hB⟩ hK
    have hc := hv.cell
    have HB := Lib.hid hB
    clear hB
    gi_wp2
    refine ⟨by simp, .inl ⟨_, _, rfl, run_takeDeferred hK, ?_⟩⟩
    refine ⟨_, results_tmp2 rfl _ _ _, v, rfl, ownsRow_putObj hrow _ hK rfl, ?_⟩
    refine HB.out.trans ⟨rfl, rfl, rfl, by simp [World.putObj], fun k hk => World.putObj_heap_other (by omega)⟩
  case stop =>
    rintro D c pre W _ _ h _
    exact h.elim
end Go.Proofs.Ytocjedheimhfoaa.splitimpl
