/- The walk of SplitVoter: the program's. -/
import Derived.Test.YtcklehfcpengoaaSplitV
import Derived.Test.YtcklehfcpengoaaSplitP
import Derived.Test.YtcklehfcpengoaaConcat
namespace Go.Proofs.Ytcklehfcpengoaa.spliti
open Go.RowKit own pp nums pv voter dualv splitp splitv
set_option linter.unusedVariables false
set_option linter.unusedSimpArgs false

theorem own_block {W : World} {lo hi n cap : Nat} {a : Option Addr} {l : List Int} (h : OwnI lo hi W (.slice a n cap) l) (h0 : 0 < l.length) : ∃ gg, a = some ⟨gg, 0, none⟩ ∧ lo ≤ gg ∧ gg < hi := by
  rcases h.1.2 with ⟨_, e⟩ | ⟨g, cp, cur, e, hb, _⟩
  · omega
  · injection e with e1 e2 e3
    subst e1
    have := h.lt (g := g) rfl
    exact ⟨g, rfl, this.1, this.2.1⟩
theorem one_reads {W : World} {g : Nat} {y : Int} (h : W.cell? ⟨g, 0, none⟩ = some (.int .i64 y)) : ints.Reads .i64 W (some ⟨g, 0, none⟩) [y] :=
  Or.inr ⟨g, 0, rfl, block_lt_of_cell (a := ⟨g, 0, none⟩) h, fun i hi => by (have h9 : i = 0 := by (simp at hi; omega)); subst h9; exact h⟩
set_option maxRecDepth 100000 in
set_option maxHeartbeats 4000000 in
theorem impl_no (a : Option Addr) (ws : List Int) (c : Nat) (q : Int) (w : World) (hr : ints.Reads .i64 w a ws) (hn : ws.length ≤ 1048576) (i part : Int) (h : Hid (voterB ws q i = false)) :
    Calls Try.prog 33 #[.agg #[.slice a ws.length c, .int .i64 q], .int .i64 i, .int .i64 part] w (RetPB [] 0 false w) := by
  have Hhr := Lib.hid hr
  clear hr
  go_enter Try.func33, Try.ntmps33
  go_wp2_with fail
  have x0_0 : (w.alloc (.cells #[.slice a ws.length c, .int .i64 q] 27)).cell? ⟨w.heap.size, 0, none⟩ = some (.slice a ws.length c) := cell_new _ _ _ (by simp) rfl
  have x0_1 : (w.alloc (.cells #[.slice a ws.length c, .int .i64 q] 27)).cell? ⟨w.heap.size, 1, none⟩ = some (.int .i64 q) := cell_new _ _ _ (by simp) rfl
  have HB0 := Lib.hid (below_alloc w (.cells #[.slice a ws.length c, .int .i64 q] 27))
  replace x0_0 := cell_old (.cells #[.slice none 0 0, .int .i64 0] 27) x0_0
  replace x0_1 := cell_old (.cells #[.slice none 0 0, .int .i64 0] 27) x0_1
  have x1_0 : ((w.alloc (.cells #[.slice a ws.length c, .int .i64 q] 27)).alloc (.cells #[.slice none 0 0, .int .i64 0] 27)).cell? ⟨w.heap.size + 1, 0, none⟩ = some (.slice none 0 0) := cell_new _ _ _ (by simp) rfl
  have x1_1 : ((w.alloc (.cells #[.slice a ws.length c, .int .i64 q] 27)).alloc (.cells #[.slice none 0 0, .int .i64 0] 27)).cell? ⟨w.heap.size + 1, 1, none⟩ = some (.int .i64 0) := cell_new _ _ _ (by simp) rfl
  have f1_0 : ((w.alloc (.cells #[.slice a ws.length c, .int .i64 q] 27)).alloc (.cells #[.slice none 0 0, .int .i64 0] 27)).frozen? ⟨w.heap.size + 1, 0, none⟩ = false := fro_new _ _ _ (by simp)
  have f1_1 : ((w.alloc (.cells #[.slice a ws.length c, .int .i64 q] 27)).alloc (.cells #[.slice none 0 0, .int .i64 0] 27)).frozen? ⟨w.heap.size + 1, 1, none⟩ = false := fro_new _ _ _ (by simp)
  replace HB0 := Lib.hid (HB0.out.alloc (by simp) (.cells #[.slice none 0 0, .int .i64 0] 27))
  have s0 : w.heap.size + 2 ≤ ((w.alloc (.cells #[.slice a ws.length c, .int .i64 q] 27)).alloc (.cells #[.slice none 0 0, .int .i64 0] 27)).heap.size := by simp
  generalize hw : ((w.alloc (.cells #[.slice a ws.length c, .int .i64 q] 27)).alloc (.cells #[.slice none 0 0, .int .i64 0] 27)) = w0 at *
  clear hw
  have n0_0 : w.heap.size < w0.heap.size := by omega
  have n0_1 : w.heap.size + 1 < w0.heap.size := by omega
  refine (impl_voter a ws c q _ (Hhr.out.below HB0.out) hn i false h).mono ?_
  rintro e w1 ⟨rfl, hb⟩
  have s1 : w0.heap.size ≤ w1.heap.size := hb.size
  have n1_0 : w.heap.size < w1.heap.size := by omega
  have n1_1 : w.heap.size + 1 < w1.heap.size := by omega
  replace x0_0 := cell_below hb x0_0 (by omega)
  replace x0_1 := cell_below hb x0_1 (by omega)
  replace x1_0 := cell_below hb x1_0 (by omega)
  replace x1_1 := cell_below hb x1_1 (by omega)
  replace f1_0 := fro_below hb f1_0 (by omega)
  replace f1_1 := fro_below hb f1_1 (by omega)
  have HB1 := Lib.hid (HB0.out.trans (hb.mono (by omega)))
  clear hb
  go_wp2_with fail
  refine bodyPost_ret (v := .tuple #[.agg #[.slice none 0 0, .int .i64 0], .bool false]) (by simp [results, Try.results33, go_sem, x1_0, x1_1]) rfl ⟨_, rfl, OwnI.nil _ _ _, ?_⟩
  exact ((HB1.out.setCell (by simp) _).setCell (by simp) _)
set_option maxRecDepth 100000 in
set_option maxHeartbeats 4000000 in
theorem impl_yes (a : Option Addr) (ws : List Int) (c : Nat) (q : Int) (w : World) (hr : ints.Reads .i64 w a ws) (hn : ws.length ≤ 1048576) (i part : Int) (h : Hid (voterB ws q i = true)) (hkept : voteB ((ws ++ [IntKind.i64.wrap (ws.getD i.toNat 0 - part)]).set i.toNat part) q = true) :
    Calls Try.prog 33 #[.agg #[.slice a ws.length c, .int .i64 q], .int .i64 i, .int .i64 part] w (RetPB ((ws ++ [IntKind.i64.wrap (ws.getD i.toNat 0 - part)]).set i.toNat part) q true w) := by
  obtain ⟨hv, hi0, hi1⟩ := (voter_iff _ _ _).1 h.out
  have h18 := ((vote_iff _ _).1 hv).1
  obtain ⟨k, rfl⟩ : ∃ k : Nat, i = k := ⟨i.toNat, by omega⟩
  have hk : k < ws.length := by omega
  rw [Int.toNat_natCast] at hkept
  rw [Int.toNat_natCast]
  have Hhr := Lib.hid hr
  clear hr
  go_enter Try.func33, Try.ntmps33
  go_wp2_with fail
  have x0_0 : (w.alloc (.cells #[.slice a ws.length c, .int .i64 q] 27)).cell? ⟨w.heap.size, 0, none⟩ = some (.slice a ws.length c) := cell_new _ _ _ (by simp) rfl
  have x0_1 : (w.alloc (.cells #[.slice a ws.length c, .int .i64 q] 27)).cell? ⟨w.heap.size, 1, none⟩ = some (.int .i64 q) := cell_new _ _ _ (by simp) rfl
  have HB0 := Lib.hid (below_alloc w (.cells #[.slice a ws.length c, .int .i64 q] 27))
  replace x0_0 := cell_old (.cells #[.slice none 0 0, .int .i64 0] 27) x0_0
  replace x0_1 := cell_old (.cells #[.slice none 0 0, .int .i64 0] 27) x0_1
  have x1_0 : ((w.alloc (.cells #[.slice a ws.length c, .int .i64 q] 27)).alloc (.cells #[.slice none 0 0, .int .i64 0] 27)).cell? ⟨w.heap.size + 1, 0, none⟩ = some (.slice none 0 0) := cell_new _ _ _ (by simp) rfl
  have x1_1 : ((w.alloc (.cells #[.slice a ws.length c, .int .i64 q] 27)).alloc (.cells #[.slice none 0 0, .int .i64 0] 27)).cell? ⟨w.heap.size + 1, 1, none⟩ = some (.int .i64 0) := cell_new _ _ _ (by simp) rfl
  have f1_0 : ((w.alloc (.cells #[.slice a ws.length c, .int .i64 q] 27)).alloc (.cells #[.slice none 0 0, .int .i64 0] 27)).frozen? ⟨w.heap.size + 1, 0, none⟩ = false := fro_new _ _ _ (by simp)
  have f1_1 : ((w.alloc (.cells #[.slice a ws.length c, .int .i64 q] 27)).alloc (.cells #[.slice none 0 0, .int .i64 0] 27)).frozen? ⟨w.heap.size + 1, 1, none⟩ = false := fro_new _ _ _ (by simp)
  replace HB0 := Lib.hid (HB0.out.alloc (by simp) (.cells #[.slice none 0 0, .int .i64 0] 27))
  have s0 : w.heap.size + 2 ≤ ((w.alloc (.cells #[.slice a ws.length c, .int .i64 q] 27)).alloc (.cells #[.slice none 0 0, .int .i64 0] 27)).heap.size := by simp
  generalize hw : ((w.alloc (.cells #[.slice a ws.length c, .int .i64 q] 27)).alloc (.cells #[.slice none 0 0, .int .i64 0] 27)) = w0 at *
  clear hw
  have n0_0 : w.heap.size < w0.heap.size := by omega
  have n0_1 : w.heap.size + 1 < w0.heap.size := by omega
  refine (impl_voter a ws c q _ (Hhr.out.below HB0.out) hn k true h).mono ?_
  rintro e w1 ⟨rfl, hb⟩
  have s1 : w0.heap.size ≤ w1.heap.size := hb.size
  have n1_0 : w.heap.size < w1.heap.size := by omega
  have n1_1 : w.heap.size + 1 < w1.heap.size := by omega
  replace x0_0 := cell_below hb x0_0 (by omega)
  replace x0_1 := cell_below hb x0_1 (by omega)
  replace x1_0 := cell_below hb x1_0 (by omega)
  replace x1_1 := cell_below hb x1_1 (by omega)
  replace f1_0 := fro_below hb f1_0 (by omega)
  replace f1_1 := fro_below hb f1_1 (by omega)
  have HB1 := Lib.hid (HB0.out.trans (hb.mono (by omega)))
  clear hb
  obtain ⟨b, off, rfl, hbl, hc⟩ := Hhr.out.at hk
  replace hc := cell_below HB1.out hc hbl
  have HKEPT := Lib.hid hkept
  clear hkept
  generalize hxx : ws.getD k 0 = x at *
  clear hxx h hv hi0 hi1
  have j1 : (0 : Int) ≤ (k : Int) := by omega
  have j2 : (k : Int) < (ws.length : Int) := by omega
  go_wp2_with fail
  generalize hy : IntKind.i64.wrap (x - part) = y at *
  refine wp_region_noPanic ?_
  refine wp_region_held_drew (S := fun w' => w'.cell? ⟨w.heap.size, 0, none⟩ = some (.slice (some ⟨b, off, none⟩) ws.length c) ∧ w'.cell? ⟨w.heap.size, 1, none⟩ = some (.int .i64 q) ∧ w'.cell? ⟨b, off + k, none⟩ = some (.int .i64 x)) (by kernel_rfl) ?_ (fun hHeld => ?_)
  · exact ⟨x0_0, x0_1, hc⟩
  have hb : Below w1.heap.size w1 w1.drew := (Below.refl _ _).drew
  generalize hwn : w1.drew = v11 at *
  clear hwn
  have sz11 : w1.heap.size ≤ v11.heap.size := hb.size
  replace f1_0 := fro_keep hb x1_0 f1_0
  replace f1_1 := fro_keep hb x1_1 f1_1
  replace x0_0 := cell_keep hb x0_0
  replace x0_1 := cell_keep hb x0_1
  replace x1_0 := cell_keep hb x1_0
  replace x1_1 := cell_keep hb x1_1
  replace hc := cell_keep hb hc
  have HBh11 := Lib.hid (HB1.out.trans (hb.mono (by have := HB1.out.size; omega)))
  clear hb
  refine wpAnyH_take (i := 0) (v := ?_) rfl (by kernel_rfl) (by kernel_rfl) (by kernel_rfl) (fun _ _ _ h => h) (Or.inl ⟨by rfl, ?_⟩) (by assumption) ?_
  rotate_left
  · intro w9 hSw; (try dsimp only at hSw); go_simp; try with_reducible rfl
  try simp only [List.getElem_toArray, List.getElem_cons_succ, List.getElem_cons_zero, Act.put, List.setIfInBounds_toArray, List.set_cons_zero, List.set_cons_succ]
  refine wpAnyH_take (i := 1) (v := ?_) rfl (by kernel_rfl) (by kernel_rfl) (by kernel_rfl) (fun _ _ _ h => h) (Or.inl ⟨by rfl, ?_⟩) (by assumption) ?_
  rotate_left
  · intro w9 hSw; (try dsimp only at hSw); go_simp; try with_reducible rfl
  try simp only [List.getElem_toArray, List.getElem_cons_succ, List.getElem_cons_zero, Act.put, List.setIfInBounds_toArray, List.set_cons_zero, List.set_cons_succ]
  refine wpAnyH_take (i := 2) (v := ?_) rfl (by kernel_rfl) (by kernel_rfl) (by kernel_rfl) (fun _ _ _ h => h) (Or.inl ⟨by rfl, ?_⟩) (by assumption) ?_
  rotate_left
  · intro w9 hSw; (try dsimp only at hSw); go_simp; try with_reducible rfl
  try simp only [List.getElem_toArray, List.getElem_cons_succ, List.getElem_cons_zero, Act.put, List.setIfInBounds_toArray, List.set_cons_zero, List.set_cons_succ]
  refine wpAnyH_take (i := 3) (v := ?_) rfl (by kernel_rfl) (by kernel_rfl) (by kernel_rfl) (fun _ _ _ h => h) (Or.inl ⟨by rfl, ?_⟩) (by assumption) ?_
  rotate_left
  · intro w9 hSw; (try dsimp only at hSw); go_simp; try with_reducible rfl
  try simp only [List.getElem_toArray, List.getElem_cons_succ, List.getElem_cons_zero, Act.put, List.setIfInBounds_toArray, List.set_cons_zero, List.set_cons_succ]
  refine wpAnyH_take (i := 4) (v := ?_) rfl (by kernel_rfl) (by kernel_rfl) (by kernel_rfl) (fun _ _ _ h => h) (Or.inl ⟨by rfl, ?_⟩) (by assumption) ?_
  rotate_left
  · intro w9 hSw; (try dsimp only at hSw); go_simp; try with_reducible rfl
  try simp only [List.getElem_toArray, List.getElem_cons_succ, List.getElem_cons_zero, Act.put, List.setIfInBounds_toArray, List.set_cons_zero, List.set_cons_succ]
  refine wpAnyH_take (i := 5) (v := ?_) rfl (by kernel_rfl) (by kernel_rfl) (by kernel_rfl) (fun _ _ _ h => h) (Or.inl ⟨by rfl, ?_⟩) (by assumption) ?_
  rotate_left
  · intro w9 hSw; (try dsimp only at hSw); go_simp; try with_reducible rfl
  try simp only [List.getElem_toArray, List.getElem_cons_succ, List.getElem_cons_zero, Act.put, List.setIfInBounds_toArray, List.set_cons_zero, List.set_cons_succ]
  refine wpAnyH_take (i := 6) (v := ?_) rfl (by kernel_rfl) (by kernel_rfl) (by kernel_rfl) (fun _ _ _ h => h) (Or.inl ⟨by rfl, ?_⟩) (by assumption) ?_
  rotate_left
  · intro w9 hSw; (try dsimp only at hSw); go_simp; try with_reducible rfl
  try simp only [List.getElem_toArray, List.getElem_cons_succ, List.getElem_cons_zero, Act.put, List.setIfInBounds_toArray, List.set_cons_zero, List.set_cons_succ]
  refine wpAnyH_take (i := 7) (v := ?_) rfl (by kernel_rfl) (by kernel_rfl) (by kernel_rfl) (fun _ _ _ h => h) (Or.inl ⟨by rfl, ?_⟩) (by assumption) ?_
  rotate_left
  · intro w9 hSw; (try dsimp only at hSw); go_simp; try with_reducible rfl
  try simp only [List.getElem_toArray, List.getElem_cons_succ, List.getElem_cons_zero, Act.put, List.setIfInBounds_toArray, List.set_cons_zero, List.set_cons_succ]
  refine wpAnyH_take (i := 8) (v := ?_) rfl (by kernel_rfl) (by kernel_rfl) (by kernel_rfl) (fun _ _ _ h => h) (Or.inl ⟨by rfl, ?_⟩) (by assumption) ?_
  rotate_left
  · intro w9 hSw; (try dsimp only at hSw); go_simp; try with_reducible rfl
  try simp only [List.getElem_toArray, List.getElem_cons_succ, List.getElem_cons_zero, Act.put, List.setIfInBounds_toArray, List.set_cons_zero, List.set_cons_succ]
  refine wpAnyH_ready (rs := [9]) (by kernel_rfl) (by simp) ?_
  refine AllReadyH.cons rfl (fun K hK => ?_) AllReadyH.nil
  clear hHeld
  go_simp
  have nw_0 : (v11.alloc (.cells #[.int .i64 y] 3)).cell? ⟨v11.heap.size, 0, none⟩ = some (.int .i64 y) := cell_new _ _ _ rfl rfl
  have nw_f0 : (v11.alloc (.cells #[.int .i64 y] 3)).frozen? ⟨v11.heap.size, 0, none⟩ = false := fro_new _ _ _ rfl
  have hb := below_alloc v11 (.cells #[.int .i64 y] 3)
  have lt_nw := size_alloc' v11 (.cells #[.int .i64 y] 3)
  generalize hwn : v11.alloc (.cells #[.int .i64 y] 3) = v12 at *
  clear hwn
  have sz12 : v11.heap.size ≤ v12.heap.size := hb.size
  replace f1_0 := fro_keep hb x1_0 f1_0
  replace f1_1 := fro_keep hb x1_1 f1_1
  replace x0_0 := cell_keep hb x0_0
  replace x0_1 := cell_keep hb x0_1
  replace x1_0 := cell_keep hb x1_0
  replace x1_1 := cell_keep hb x1_1
  replace hc := cell_keep hb hc
  have HBh12 := Lib.hid (HBh11.out.trans (hb.mono (by have := HBh11.out.size; omega)))
  clear hb
  obtain ⟨Bnw, hBnw⟩ : ∃ Bnw : Nat, Bnw = v11.heap.size := ⟨_, rfl⟩
  rw [← hBnw] at nw_0 nw_f0 ⊢
  have hBlnw : Bnw ≤ v11.heap.size ∧ v11.heap.size ≤ Bnw := by omega
  clear hBnw
  refine hK.out _ _ ?_ (fun hHeld => ?_)
  · exact ⟨x0_0, x0_1, hc⟩
  clear hK K
  try simp only [List.getElem_toArray, List.getElem_cons_succ, List.getElem_cons_zero, Act.put, List.setIfInBounds_toArray, List.set_cons_zero, List.set_cons_succ]
  refine wpAnyH_ready (rs := [10]) (by kernel_rfl) (by simp) ?_
  refine AllReadyH.cons rfl (fun K hK => ?_) AllReadyH.nil
  clear hHeld
  go_simp
  have sl_0 : (v12.alloc (.cells #[.slice (some ⟨b, off, none⟩) ws.length c, .slice (some ⟨Bnw, 0, none⟩) 1 1] 22)).cell? ⟨v12.heap.size, 0, none⟩ = some (.slice (some ⟨b, off, none⟩) ws.length c) := cell_new _ _ _ rfl rfl
  have sl_f0 : (v12.alloc (.cells #[.slice (some ⟨b, off, none⟩) ws.length c, .slice (some ⟨Bnw, 0, none⟩) 1 1] 22)).frozen? ⟨v12.heap.size, 0, none⟩ = false := fro_new _ _ _ rfl
  have sl_1 : (v12.alloc (.cells #[.slice (some ⟨b, off, none⟩) ws.length c, .slice (some ⟨Bnw, 0, none⟩) 1 1] 22)).cell? ⟨v12.heap.size, 1, none⟩ = some (.slice (some ⟨Bnw, 0, none⟩) 1 1) := cell_new _ _ _ rfl rfl
  have sl_f1 : (v12.alloc (.cells #[.slice (some ⟨b, off, none⟩) ws.length c, .slice (some ⟨Bnw, 0, none⟩) 1 1] 22)).frozen? ⟨v12.heap.size, 1, none⟩ = false := fro_new _ _ _ rfl
  have hb := below_alloc v12 (.cells #[.slice (some ⟨b, off, none⟩) ws.length c, .slice (some ⟨Bnw, 0, none⟩) 1 1] 22)
  have lt_sl := size_alloc' v12 (.cells #[.slice (some ⟨b, off, none⟩) ws.length c, .slice (some ⟨Bnw, 0, none⟩) 1 1] 22)
  generalize hwn : v12.alloc (.cells #[.slice (some ⟨b, off, none⟩) ws.length c, .slice (some ⟨Bnw, 0, none⟩) 1 1] 22) = v13 at *
  clear hwn
  have sz13 : v12.heap.size ≤ v13.heap.size := hb.size
  replace f1_0 := fro_keep hb x1_0 f1_0
  replace f1_1 := fro_keep hb x1_1 f1_1
  replace nw_f0 := fro_keep hb nw_0 nw_f0
  replace x0_0 := cell_keep hb x0_0
  replace x0_1 := cell_keep hb x0_1
  replace x1_0 := cell_keep hb x1_0
  replace x1_1 := cell_keep hb x1_1
  replace hc := cell_keep hb hc
  replace nw_0 := cell_keep hb nw_0
  have HBh13 := Lib.hid (HBh12.out.trans (hb.mono (by have := HBh12.out.size; omega)))
  clear hb
  obtain ⟨Bsl, hBsl⟩ : ∃ Bsl : Nat, Bsl = v12.heap.size := ⟨_, rfl⟩
  rw [← hBsl] at sl_0 sl_f0 sl_1 sl_f1 ⊢
  have hBlsl : Bsl ≤ v12.heap.size ∧ v12.heap.size ≤ Bsl := by omega
  clear hBsl
  refine hK.out _ _ ?_ (fun hHeld => ?_)
  · exact ⟨x0_0, x0_1, hc⟩
  clear hK K
  try simp only [List.getElem_toArray, List.getElem_cons_succ, List.getElem_cons_zero, Act.put, List.setIfInBounds_toArray, List.set_cons_zero, List.set_cons_succ]
  refine wpAnyH_ready (rs := [11]) (by kernel_rfl) (by simp) ?_
  refine AllReadyH.cons rfl (fun K hK => ?_) AllReadyH.nil
  clear hHeld
  go_simp
  refine (concat.concat Bsl 2 (some ⟨b, off, none⟩) ws c (some ⟨Bnw, 0, none⟩) [y] 1 _ (Hhr.out.below HBh13.out) (one_reads nw_0) (by omega) (by simp) hn (by simp) sl_0 sl_1 (block_lt_of_cell (a := ⟨Bsl, 0, none⟩) sl_0)).mono ?_
  rintro e v14 ⟨v, rfl, ho, hb⟩
  obtain ⟨p1, q1, rfl, _, _, _⟩ := ho.slice
  have sz14 : v13.heap.size ≤ v14.heap.size := hb.size
  replace f1_0 := fro_keep hb x1_0 f1_0
  replace f1_1 := fro_keep hb x1_1 f1_1
  replace nw_f0 := fro_keep hb nw_0 nw_f0
  replace sl_f0 := fro_keep hb sl_0 sl_f0
  replace sl_f1 := fro_keep hb sl_1 sl_f1
  replace x0_0 := cell_keep hb x0_0
  replace x0_1 := cell_keep hb x0_1
  replace x1_0 := cell_keep hb x1_0
  replace x1_1 := cell_keep hb x1_1
  replace hc := cell_keep hb hc
  replace nw_0 := cell_keep hb nw_0
  replace sl_0 := cell_keep hb sl_0
  replace sl_1 := cell_keep hb sl_1
  have HBh14 := Lib.hid (HBh13.out.trans (hb.mono (by have := HBh13.out.size; omega)))
  clear hb
  have HO1 := Lib.hid ho
  have szl_HO1 : v13.heap.size ≤ v14.heap.size := sz14
  clear ho
  refine hK.out _ _ ?_ (fun hHeld => ?_)
  · exact ⟨x0_0, x0_1, hc⟩
  clear hK K
  try simp only [List.getElem_toArray, List.getElem_cons_succ, List.getElem_cons_zero, Act.put, List.setIfInBounds_toArray, List.set_cons_zero, List.set_cons_succ]
  refine wpAnyH_take (i := 12) (v := ?_) rfl (by kernel_rfl) (by kernel_rfl) (by kernel_rfl) (fun _ _ _ h => h) (Or.inl ⟨by rfl, ?_⟩) (by assumption) ?_
  rotate_left
  · intro w9 hSw; (try dsimp only at hSw); go_simp; try with_reducible rfl
  try simp only [List.getElem_toArray, List.getElem_cons_succ, List.getElem_cons_zero, Act.put, List.setIfInBounds_toArray, List.set_cons_zero, List.set_cons_succ]
  refine wpAnyH_done (by kernel_rfl) ?_ _
  refine NoPanic.normal ?_
  clear hHeld
  obtain ⟨gg, hq1, hq2, hq3⟩ := own_block HO1.out (by simp)
  subst hq1
  have hnn : (ws ++ [y]).length = ws.length + 1 := by simp
  rw [hnn] at HO1
  have hcl := own_cell HO1.out hnn.symm k (by simp; omega)
  have hfl := own_fro HO1.out hnn.symm k
  have HO3 := Lib.hid (own_put HO1.out hnn.symm k part)
  clear HO1
  have x0_0s := cell_set2 (o' := k) x0_0 (show _ ≠ gg by omega) (.int .i64 part)
  have x0_1s := cell_set2 (o' := k) x0_1 (show _ ≠ gg by omega) (.int .i64 part)
  have x1_0s := cell_set2 (o' := k) x1_0 (show _ ≠ gg by omega) (.int .i64 part)
  have x1_1s := cell_set2 (o' := k) x1_1 (show _ ≠ gg by omega) (.int .i64 part)
  have f1_0s : (v14.setCell ⟨gg, k, none⟩ (.int .i64 part)).frozen? ⟨w.heap.size + 1, 0, none⟩ = false := by rw [World.frozen?_setCell]; exact f1_0
  have f1_1s : (v14.setCell ⟨gg, k, none⟩ (.int .i64 part)).frozen? ⟨w.heap.size + 1, 1, none⟩ = false := by rw [World.frozen?_setCell]; exact f1_1
  have HB6 := Lib.hid (show Below w.heap.size w (v14.setCell ⟨gg, k, none⟩ (.int .i64 part)) from HBh14.out.setCell (by show w.heap.size ≤ gg; omega) _)
  generalize (ws ++ [y]).getD k 0 = y0 at *
  have hnn2 : k < ws.length + 1 := by omega
  have jnn : (k : Int) < (ws.length : Int) + 1 := by omega
  go_wp2_with fail
  have hln : ((ws ++ [y]).set k part).length = ws.length + 1 := by rw [List.length_set]; exact hnn
  have HK := fun wz hz => impl_kept_yes (some ⟨gg, 0, none⟩) ((ws ++ [y]).set k part) q1 q wz hz (by omega) HKEPT
  rw [hln] at HK
  refine (HK _ HO3.out.reads).mono ?_
  clear HK
  rintro e w9 ⟨rfl, hb⟩
  have HB7 := Lib.hid (HB6.out.trans (hb.mono HB6.out.size))
  have hss := size_set v14 ⟨gg, k, none⟩ (.int .i64 part)
  replace x1_0s := cell_below hb x1_0s (by omega)
  replace x1_1s := cell_below hb x1_1s (by omega)
  have y1 := fro_below hb f1_0s (by omega)
  have y2 := fro_below hb f1_1s (by omega)
  have HO4 := Lib.hid (HO3.out.below hb)
  have hsz9 := hb.size
  clear hb HB6 HO3
  go_wp2_with fail
  refine bodyPost_ret (v := .tuple #[.agg #[.slice (some ⟨gg, 0, none⟩) (ws.length + 1) q1, .int .i64 q], .bool true]) (by simp [results, Try.results33, go_sem, x1_0s, x1_1s, y1, y2]) rfl ⟨_, rfl, ?_, ?_⟩
  · simp only [size_set]; exact ((HO4.out.set (by show w.heap.size + 1 < _; omega) _).set (by show w.heap.size + 1 < _; omega) _).mono (by omega) (by omega)
  · exact (HB7.out.setCell (by simp) _).setCell (by simp) _
set_option maxRecDepth 100000 in
set_option maxHeartbeats 4000000 in
theorem impl_out (a : Option Addr) (ws : List Int) (c : Nat) (q : Int) (w : World) (hr : ints.Reads .i64 w a ws) (hn : ws.length ≤ 1048576) (i part : Int) (h : Hid (voterB ws q i = true)) (hkept : voteB ((ws ++ [IntKind.i64.wrap (ws.getD i.toNat 0 - part)]).set i.toNat part) q = false) :
    Calls Try.prog 33 #[.agg #[.slice a ws.length c, .int .i64 q], .int .i64 i, .int .i64 part] w (RetPB [] 0 false w) := by
  obtain ⟨hv, hi0, hi1⟩ := (voter_iff _ _ _).1 h.out
  have h18 := ((vote_iff _ _).1 hv).1
  obtain ⟨k, rfl⟩ : ∃ k : Nat, i = k := ⟨i.toNat, by omega⟩
  have hk : k < ws.length := by omega
  rw [Int.toNat_natCast] at hkept
  have Hhr := Lib.hid hr
  clear hr
  go_enter Try.func33, Try.ntmps33
  go_wp2_with fail
  have x0_0 : (w.alloc (.cells #[.slice a ws.length c, .int .i64 q] 27)).cell? ⟨w.heap.size, 0, none⟩ = some (.slice a ws.length c) := cell_new _ _ _ (by simp) rfl
  have x0_1 : (w.alloc (.cells #[.slice a ws.length c, .int .i64 q] 27)).cell? ⟨w.heap.size, 1, none⟩ = some (.int .i64 q) := cell_new _ _ _ (by simp) rfl
  have HB0 := Lib.hid (below_alloc w (.cells #[.slice a ws.length c, .int .i64 q] 27))
  replace x0_0 := cell_old (.cells #[.slice none 0 0, .int .i64 0] 27) x0_0
  replace x0_1 := cell_old (.cells #[.slice none 0 0, .int .i64 0] 27) x0_1
  have x1_0 : ((w.alloc (.cells #[.slice a ws.length c, .int .i64 q] 27)).alloc (.cells #[.slice none 0 0, .int .i64 0] 27)).cell? ⟨w.heap.size + 1, 0, none⟩ = some (.slice none 0 0) := cell_new _ _ _ (by simp) rfl
  have x1_1 : ((w.alloc (.cells #[.slice a ws.length c, .int .i64 q] 27)).alloc (.cells #[.slice none 0 0, .int .i64 0] 27)).cell? ⟨w.heap.size + 1, 1, none⟩ = some (.int .i64 0) := cell_new _ _ _ (by simp) rfl
  have f1_0 : ((w.alloc (.cells #[.slice a ws.length c, .int .i64 q] 27)).alloc (.cells #[.slice none 0 0, .int .i64 0] 27)).frozen? ⟨w.heap.size + 1, 0, none⟩ = false := fro_new _ _ _ (by simp)
  have f1_1 : ((w.alloc (.cells #[.slice a ws.length c, .int .i64 q] 27)).alloc (.cells #[.slice none 0 0, .int .i64 0] 27)).frozen? ⟨w.heap.size + 1, 1, none⟩ = false := fro_new _ _ _ (by simp)
  replace HB0 := Lib.hid (HB0.out.alloc (by simp) (.cells #[.slice none 0 0, .int .i64 0] 27))
  have s0 : w.heap.size + 2 ≤ ((w.alloc (.cells #[.slice a ws.length c, .int .i64 q] 27)).alloc (.cells #[.slice none 0 0, .int .i64 0] 27)).heap.size := by simp
  generalize hw : ((w.alloc (.cells #[.slice a ws.length c, .int .i64 q] 27)).alloc (.cells #[.slice none 0 0, .int .i64 0] 27)) = w0 at *
  clear hw
  have n0_0 : w.heap.size < w0.heap.size := by omega
  have n0_1 : w.heap.size + 1 < w0.heap.size := by omega
  refine (impl_voter a ws c q _ (Hhr.out.below HB0.out) hn k true h).mono ?_
  rintro e w1 ⟨rfl, hb⟩
  have s1 : w0.heap.size ≤ w1.heap.size := hb.size
  have n1_0 : w.heap.size < w1.heap.size := by omega
  have n1_1 : w.heap.size + 1 < w1.heap.size := by omega
  replace x0_0 := cell_below hb x0_0 (by omega)
  replace x0_1 := cell_below hb x0_1 (by omega)
  replace x1_0 := cell_below hb x1_0 (by omega)
  replace x1_1 := cell_below hb x1_1 (by omega)
  replace f1_0 := fro_below hb f1_0 (by omega)
  replace f1_1 := fro_below hb f1_1 (by omega)
  have HB1 := Lib.hid (HB0.out.trans (hb.mono (by omega)))
  clear hb
  obtain ⟨b, off, rfl, hbl, hc⟩ := Hhr.out.at hk
  replace hc := cell_below HB1.out hc hbl
  have HKEPT := Lib.hid hkept
  clear hkept
  generalize hxx : ws.getD k 0 = x at *
  clear hxx h hv hi0 hi1
  have j1 : (0 : Int) ≤ (k : Int) := by omega
  have j2 : (k : Int) < (ws.length : Int) := by omega
  go_wp2_with fail
  generalize hy : IntKind.i64.wrap (x - part) = y at *
  refine wp_region_noPanic ?_
  refine wp_region_held_drew (S := fun w' => w'.cell? ⟨w.heap.size, 0, none⟩ = some (.slice (some ⟨b, off, none⟩) ws.length c) ∧ w'.cell? ⟨w.heap.size, 1, none⟩ = some (.int .i64 q) ∧ w'.cell? ⟨b, off + k, none⟩ = some (.int .i64 x)) (by kernel_rfl) ?_ (fun hHeld => ?_)
  · exact ⟨x0_0, x0_1, hc⟩
  have hb : Below w1.heap.size w1 w1.drew := (Below.refl _ _).drew
  generalize hwn : w1.drew = v11 at *
  clear hwn
  have sz11 : w1.heap.size ≤ v11.heap.size := hb.size
  replace f1_0 := fro_keep hb x1_0 f1_0
  replace f1_1 := fro_keep hb x1_1 f1_1
  replace x0_0 := cell_keep hb x0_0
  replace x0_1 := cell_keep hb x0_1
  replace x1_0 := cell_keep hb x1_0
  replace x1_1 := cell_keep hb x1_1
  replace hc := cell_keep hb hc
  have HBh11 := Lib.hid (HB1.out.trans (hb.mono (by have := HB1.out.size; omega)))
  clear hb
  refine wpAnyH_take (i := 0) (v := ?_) rfl (by kernel_rfl) (by kernel_rfl) (by kernel_rfl) (fun _ _ _ h => h) (Or.inl ⟨by rfl, ?_⟩) (by assumption) ?_
  rotate_left
  · intro w9 hSw; (try dsimp only at hSw); go_simp; try with_reducible rfl
  try simp only [List.getElem_toArray, List.getElem_cons_succ, List.getElem_cons_zero, Act.put, List.setIfInBounds_toArray, List.set_cons_zero, List.set_cons_succ]
  refine wpAnyH_take (i := 1) (v := ?_) rfl (by kernel_rfl) (by kernel_rfl) (by kernel_rfl) (fun _ _ _ h => h) (Or.inl ⟨by rfl, ?_⟩) (by assumption) ?_
  rotate_left
  · intro w9 hSw; (try dsimp only at hSw); go_simp; try with_reducible rfl
  try simp only [List.getElem_toArray, List.getElem_cons_succ, List.getElem_cons_zero, Act.put, List.setIfInBounds_toArray, List.set_cons_zero, List.set_cons_succ]
  refine wpAnyH_take (i := 2) (v := ?_) rfl (by kernel_rfl) (by kernel_rfl) (by kernel_rfl) (fun _ _ _ h => h) (Or.inl ⟨by rfl, ?_⟩) (by assumption) ?_
  rotate_left
  · intro w9 hSw; (try dsimp only at hSw); go_simp; try with_reducible rfl
  try simp only [List.getElem_toArray, List.getElem_cons_succ, List.getElem_cons_zero, Act.put, List.setIfInBounds_toArray, List.set_cons_zero, List.set_cons_succ]
  refine wpAnyH_take (i := 3) (v := ?_) rfl (by kernel_rfl) (by kernel_rfl) (by kernel_rfl) (fun _ _ _ h => h) (Or.inl ⟨by rfl, ?_⟩) (by assumption) ?_
  rotate_left
  · intro w9 hSw; (try dsimp only at hSw); go_simp; try with_reducible rfl
  try simp only [List.getElem_toArray, List.getElem_cons_succ, List.getElem_cons_zero, Act.put, List.setIfInBounds_toArray, List.set_cons_zero, List.set_cons_succ]
  refine wpAnyH_take (i := 4) (v := ?_) rfl (by kernel_rfl) (by kernel_rfl) (by kernel_rfl) (fun _ _ _ h => h) (Or.inl ⟨by rfl, ?_⟩) (by assumption) ?_
  rotate_left
  · intro w9 hSw; (try dsimp only at hSw); go_simp; try with_reducible rfl
  try simp only [List.getElem_toArray, List.getElem_cons_succ, List.getElem_cons_zero, Act.put, List.setIfInBounds_toArray, List.set_cons_zero, List.set_cons_succ]
  refine wpAnyH_take (i := 5) (v := ?_) rfl (by kernel_rfl) (by kernel_rfl) (by kernel_rfl) (fun _ _ _ h => h) (Or.inl ⟨by rfl, ?_⟩) (by assumption) ?_
  rotate_left
  · intro w9 hSw; (try dsimp only at hSw); go_simp; try with_reducible rfl
  try simp only [List.getElem_toArray, List.getElem_cons_succ, List.getElem_cons_zero, Act.put, List.setIfInBounds_toArray, List.set_cons_zero, List.set_cons_succ]
  refine wpAnyH_take (i := 6) (v := ?_) rfl (by kernel_rfl) (by kernel_rfl) (by kernel_rfl) (fun _ _ _ h => h) (Or.inl ⟨by rfl, ?_⟩) (by assumption) ?_
  rotate_left
  · intro w9 hSw; (try dsimp only at hSw); go_simp; try with_reducible rfl
  try simp only [List.getElem_toArray, List.getElem_cons_succ, List.getElem_cons_zero, Act.put, List.setIfInBounds_toArray, List.set_cons_zero, List.set_cons_succ]
  refine wpAnyH_take (i := 7) (v := ?_) rfl (by kernel_rfl) (by kernel_rfl) (by kernel_rfl) (fun _ _ _ h => h) (Or.inl ⟨by rfl, ?_⟩) (by assumption) ?_
  rotate_left
  · intro w9 hSw; (try dsimp only at hSw); go_simp; try with_reducible rfl
  try simp only [List.getElem_toArray, List.getElem_cons_succ, List.getElem_cons_zero, Act.put, List.setIfInBounds_toArray, List.set_cons_zero, List.set_cons_succ]
  refine wpAnyH_take (i := 8) (v := ?_) rfl (by kernel_rfl) (by kernel_rfl) (by kernel_rfl) (fun _ _ _ h => h) (Or.inl ⟨by rfl, ?_⟩) (by assumption) ?_
  rotate_left
  · intro w9 hSw; (try dsimp only at hSw); go_simp; try with_reducible rfl
  try simp only [List.getElem_toArray, List.getElem_cons_succ, List.getElem_cons_zero, Act.put, List.setIfInBounds_toArray, List.set_cons_zero, List.set_cons_succ]
  refine wpAnyH_ready (rs := [9]) (by kernel_rfl) (by simp) ?_
  refine AllReadyH.cons rfl (fun K hK => ?_) AllReadyH.nil
  clear hHeld
  go_simp
  have nw_0 : (v11.alloc (.cells #[.int .i64 y] 3)).cell? ⟨v11.heap.size, 0, none⟩ = some (.int .i64 y) := cell_new _ _ _ rfl rfl
  have nw_f0 : (v11.alloc (.cells #[.int .i64 y] 3)).frozen? ⟨v11.heap.size, 0, none⟩ = false := fro_new _ _ _ rfl
  have hb := below_alloc v11 (.cells #[.int .i64 y] 3)
  have lt_nw := size_alloc' v11 (.cells #[.int .i64 y] 3)
  generalize hwn : v11.alloc (.cells #[.int .i64 y] 3) = v12 at *
  clear hwn
  have sz12 : v11.heap.size ≤ v12.heap.size := hb.size
  replace f1_0 := fro_keep hb x1_0 f1_0
  replace f1_1 := fro_keep hb x1_1 f1_1
  replace x0_0 := cell_keep hb x0_0
  replace x0_1 := cell_keep hb x0_1
  replace x1_0 := cell_keep hb x1_0
  replace x1_1 := cell_keep hb x1_1
  replace hc := cell_keep hb hc
  have HBh12 := Lib.hid (HBh11.out.trans (hb.mono (by have := HBh11.out.size; omega)))
  clear hb
  obtain ⟨Bnw, hBnw⟩ : ∃ Bnw : Nat, Bnw = v11.heap.size := ⟨_, rfl⟩
  rw [← hBnw] at nw_0 nw_f0 ⊢
  have hBlnw : Bnw ≤ v11.heap.size ∧ v11.heap.size ≤ Bnw := by omega
  clear hBnw
  refine hK.out _ _ ?_ (fun hHeld => ?_)
  · exact ⟨x0_0, x0_1, hc⟩
  clear hK K
  try simp only [List.getElem_toArray, List.getElem_cons_succ, List.getElem_cons_zero, Act.put, List.setIfInBounds_toArray, List.set_cons_zero, List.set_cons_succ]
  refine wpAnyH_ready (rs := [10]) (by kernel_rfl) (by simp) ?_
  refine AllReadyH.cons rfl (fun K hK => ?_) AllReadyH.nil
  clear hHeld
  go_simp
  have sl_0 : (v12.alloc (.cells #[.slice (some ⟨b, off, none⟩) ws.length c, .slice (some ⟨Bnw, 0, none⟩) 1 1] 22)).cell? ⟨v12.heap.size, 0, none⟩ = some (.slice (some ⟨b, off, none⟩) ws.length c) := cell_new _ _ _ rfl rfl
  have sl_f0 : (v12.alloc (.cells #[.slice (some ⟨b, off, none⟩) ws.length c, .slice (some ⟨Bnw, 0, none⟩) 1 1] 22)).frozen? ⟨v12.heap.size, 0, none⟩ = false := fro_new _ _ _ rfl
  have sl_1 : (v12.alloc (.cells #[.slice (some ⟨b, off, none⟩) ws.length c, .slice (some ⟨Bnw, 0, none⟩) 1 1] 22)).cell? ⟨v12.heap.size, 1, none⟩ = some (.slice (some ⟨Bnw, 0, none⟩) 1 1) := cell_new _ _ _ rfl rfl
  have sl_f1 : (v12.alloc (.cells #[.slice (some ⟨b, off, none⟩) ws.length c, .slice (some ⟨Bnw, 0, none⟩) 1 1] 22)).frozen? ⟨v12.heap.size, 1, none⟩ = false := fro_new _ _ _ rfl
  have hb := below_alloc v12 (.cells #[.slice (some ⟨b, off, none⟩) ws.length c, .slice (some ⟨Bnw, 0, none⟩) 1 1] 22)
  have lt_sl := size_alloc' v12 (.cells #[.slice (some ⟨b, off, none⟩) ws.length c, .slice (some ⟨Bnw, 0, none⟩) 1 1] 22)
  generalize hwn : v12.alloc (.cells #[.slice (some ⟨b, off, none⟩) ws.length c, .slice (some ⟨Bnw, 0, none⟩) 1 1] 22) = v13 at *
  clear hwn
  have sz13 : v12.heap.size ≤ v13.heap.size := hb.size
  replace f1_0 := fro_keep hb x1_0 f1_0
  replace f1_1 := fro_keep hb x1_1 f1_1
  replace nw_f0 := fro_keep hb nw_0 nw_f0
  replace x0_0 := cell_keep hb x0_0
  replace x0_1 := cell_keep hb x0_1
  replace x1_0 := cell_keep hb x1_0
  replace x1_1 := cell_keep hb x1_1
  replace hc := cell_keep hb hc
  replace nw_0 := cell_keep hb nw_0
  have HBh13 := Lib.hid (HBh12.out.trans (hb.mono (by have := HBh12.out.size; omega)))
  clear hb
  obtain ⟨Bsl, hBsl⟩ : ∃ Bsl : Nat, Bsl = v12.heap.size := ⟨_, rfl⟩
  rw [← hBsl] at sl_0 sl_f0 sl_1 sl_f1 ⊢
  have hBlsl : Bsl ≤ v12.heap.size ∧ v12.heap.size ≤ Bsl := by omega
  clear hBsl
  refine hK.out _ _ ?_ (fun hHeld => ?_)
  · exact ⟨x0_0, x0_1, hc⟩
  clear hK K
  try simp only [List.getElem_toArray, List.getElem_cons_succ, List.getElem_cons_zero, Act.put, List.setIfInBounds_toArray, List.set_cons_zero, List.set_cons_succ]
  refine wpAnyH_ready (rs := [11]) (by kernel_rfl) (by simp) ?_
  refine AllReadyH.cons rfl (fun K hK => ?_) AllReadyH.nil
  clear hHeld
  go_simp
  refine (concat.concat Bsl 2 (some ⟨b, off, none⟩) ws c (some ⟨Bnw, 0, none⟩) [y] 1 _ (Hhr.out.below HBh13.out) (one_reads nw_0) (by omega) (by simp) hn (by simp) sl_0 sl_1 (block_lt_of_cell (a := ⟨Bsl, 0, none⟩) sl_0)).mono ?_
  rintro e v14 ⟨v, rfl, ho, hb⟩
  obtain ⟨p1, q1, rfl, _, _, _⟩ := ho.slice
  have sz14 : v13.heap.size ≤ v14.heap.size := hb.size
  replace f1_0 := fro_keep hb x1_0 f1_0
  replace f1_1 := fro_keep hb x1_1 f1_1
  replace nw_f0 := fro_keep hb nw_0 nw_f0
  replace sl_f0 := fro_keep hb sl_0 sl_f0
  replace sl_f1 := fro_keep hb sl_1 sl_f1
  replace x0_0 := cell_keep hb x0_0
  replace x0_1 := cell_keep hb x0_1
  replace x1_0 := cell_keep hb x1_0
  replace x1_1 := cell_keep hb x1_1
  replace hc := cell_keep hb hc
  replace nw_0 := cell_keep hb nw_0
  replace sl_0 := cell_keep hb sl_0
  replace sl_1 := cell_keep hb sl_1
  have HBh14 := Lib.hid (HBh13.out.trans (hb.mono (by have := HBh13.out.size; omega)))
  clear hb
  have HO1 := Lib.hid ho
  have szl_HO1 : v13.heap.size ≤ v14.heap.size := sz14
  clear ho
  refine hK.out _ _ ?_ (fun hHeld => ?_)
  · exact ⟨x0_0, x0_1, hc⟩
  clear hK K
  try simp only [List.getElem_toArray, List.getElem_cons_succ, List.getElem_cons_zero, Act.put, List.setIfInBounds_toArray, List.set_cons_zero, List.set_cons_succ]
  refine wpAnyH_take (i := 12) (v := ?_) rfl (by kernel_rfl) (by kernel_rfl) (by kernel_rfl) (fun _ _ _ h => h) (Or.inl ⟨by rfl, ?_⟩) (by assumption) ?_
  rotate_left
  · intro w9 hSw; (try dsimp only at hSw); go_simp; try with_reducible rfl
  try simp only [List.getElem_toArray, List.getElem_cons_succ, List.getElem_cons_zero, Act.put, List.setIfInBounds_toArray, List.set_cons_zero, List.set_cons_succ]
  refine wpAnyH_done (by kernel_rfl) ?_ _
  refine NoPanic.normal ?_
  clear hHeld
  obtain ⟨gg, hq1, hq2, hq3⟩ := own_block HO1.out (by simp)
  subst hq1
  have hnn : (ws ++ [y]).length = ws.length + 1 := by simp
  rw [hnn] at HO1
  have hcl := own_cell HO1.out hnn.symm k (by simp; omega)
  have hfl := own_fro HO1.out hnn.symm k
  have HO3 := Lib.hid (own_put HO1.out hnn.symm k part)
  clear HO1
  have x0_0s := cell_set2 (o' := k) x0_0 (show _ ≠ gg by omega) (.int .i64 part)
  have x0_1s := cell_set2 (o' := k) x0_1 (show _ ≠ gg by omega) (.int .i64 part)
  have x1_0s := cell_set2 (o' := k) x1_0 (show _ ≠ gg by omega) (.int .i64 part)
  have x1_1s := cell_set2 (o' := k) x1_1 (show _ ≠ gg by omega) (.int .i64 part)
  have f1_0s : (v14.setCell ⟨gg, k, none⟩ (.int .i64 part)).frozen? ⟨w.heap.size + 1, 0, none⟩ = false := by rw [World.frozen?_setCell]; exact f1_0
  have f1_1s : (v14.setCell ⟨gg, k, none⟩ (.int .i64 part)).frozen? ⟨w.heap.size + 1, 1, none⟩ = false := by rw [World.frozen?_setCell]; exact f1_1
  have HB6 := Lib.hid (show Below w.heap.size w (v14.setCell ⟨gg, k, none⟩ (.int .i64 part)) from HBh14.out.setCell (by show w.heap.size ≤ gg; omega) _)
  generalize (ws ++ [y]).getD k 0 = y0 at *
  have hnn2 : k < ws.length + 1 := by omega
  have jnn : (k : Int) < (ws.length : Int) + 1 := by omega
  go_wp2_with fail
  have hln : ((ws ++ [y]).set k part).length = ws.length + 1 := by rw [List.length_set]; exact hnn
  have HK := fun wz hz => impl_kept_no (some ⟨gg, 0, none⟩) ((ws ++ [y]).set k part) q1 q wz hz (by omega) HKEPT
  rw [hln] at HK
  refine (HK _ HO3.out.reads).mono ?_
  clear HK
  rintro e w9 ⟨rfl, hb⟩
  have HB7 := Lib.hid (HB6.out.trans (hb.mono HB6.out.size))
  have hss := size_set v14 ⟨gg, k, none⟩ (.int .i64 part)
  replace x1_0s := cell_below hb x1_0s (by omega)
  replace x1_1s := cell_below hb x1_1s (by omega)
  have y1 := fro_below hb f1_0s (by omega)
  have y2 := fro_below hb f1_1s (by omega)
  have HO4 := Lib.hid (HO3.out.below hb)
  have hsz9 := hb.size
  clear hb HB6 HO3
  go_wp2_with fail
  refine bodyPost_ret (v := .tuple #[.agg #[.slice none 0 0, .int .i64 0], .bool false]) (by simp [results, Try.results33, go_sem, x1_0s, x1_1s, y1, y2]) rfl ⟨_, rfl, OwnI.nil _ _ _, ?_⟩
  exact ((HB7.out.setCell (by simp) _).setCell (by simp) _)
end Go.Proofs.Ytcklehfcpengoaa.spliti
