/- The walks of the model's JoinSamples. -/
import Derived.Test.YtoephhhofkmgjabConcatE
import Derived.Test.YtoephhhofkmgjabJoinSN
import Derived.Test.YtoephhhofkmgjabJoinSI
import Derived.Test.YtoephhhofkmgjabRowsCopy
import Derived.Test.YtoephhhofkmgjabSKept
import Derived.Test.YtoephhhofkmgjabOutBox
import Derived.Maps.AppendAt
import Derived.Deep.RegionHeld3
namespace Go.Proofs.Ytoephhhofkmgjab.joinss
open Go.RowKit own own1 pp nums samplesv samplest samplefns concate
set_option linter.unusedVariables false
set_option linter.unusedSimpArgs false
attribute [local go_sem ↓] Go.wp_at_zero Go.wp_at_succ

theorem cell_keep {W W' : World} (h : Below W.heap.size W W') {b o : Nat} {x : Value} (hx : W.cell? ⟨b, o, none⟩ = some x) : W'.cell? ⟨b, o, none⟩ = some x :=
  cell_below h hx (block_lt_of_cell (a := ⟨b, o, none⟩) hx)
theorem fro_keep {W W' : World} (h : Below W.heap.size W W') {b o o' : Nat} {x : Value} (hx : W.cell? ⟨b, o', none⟩ = some x) (hf : W.frozen? ⟨b, o, none⟩ = false) : W'.frozen? ⟨b, o, none⟩ = false :=
  fro_below h hf (block_lt_of_cell (a := ⟨b, o', none⟩) hx)
theorem cell_grow {W W' : World} {row : Option Nat} (h : W.grownBy W' row) {b o : Nat} {x : Value} (hx : W.cell? ⟨b, o, none⟩ = some x) (hne : ∀ g, row = some g → b ≠ g) : W'.cell? ⟨b, o, none⟩ = some x :=
  (World.cell?_of_block (h.block b (block_lt_of_cell (a := ⟨b, o, none⟩) hx) (fun e => hne b e.symm rfl))).trans hx
theorem fro_grow {W W' : World} {row : Option Nat} (h : W.grownBy W' row) {b o o' : Nat} {x : Value} (hx : W.cell? ⟨b, o', none⟩ = some x) (hf : W.frozen? ⟨b, o, none⟩ = false) (hne : ∀ g, row = some g → b ≠ g) : W'.frozen? ⟨b, o, none⟩ = false :=
  (World.frozen?_of_block (a := ⟨b, o, none⟩) (h.block b (block_lt_of_cell (a := ⟨b, o', none⟩) hx) (fun e => hne b e.symm rfl))).trans hf
theorem cell_set2 {W : World} {b o b' o' : Nat} {x : Value} (hx : W.cell? ⟨b, o, none⟩ = some x) (hne : b ≠ b') (u : Value) : (W.setCell ⟨b', o', none⟩ u).cell? ⟨b, o, none⟩ = some x :=
  (World.cell?_of_block (Below.heap_setCell _ _ _ _ (by show b ≠ b'; exact hne))).trans hx
theorem grown_set (W : World) (b o : Nat) (u : Value) : W.grownBy (W.setCell ⟨b, o, none⟩ u) (some b) :=
  ⟨rfl, rfl, rfl, by rw [size_set]; exact Nat.le_refl _, fun k hk hne => Below.heap_setCell _ _ _ _ (fun e => hne (by rw [e]))⟩
theorem grown_trans {W W1 W2 : World} {row : Option Nat} (h : W.grownBy W1 row) (k : W1.grownBy W2 row) : W.grownBy W2 row :=
  ⟨k.os.trans h.os, k.tape.trans h.tape, k.output.trans h.output, Nat.le_trans h.size k.size, fun i hi hn => (k.block i (Nat.lt_of_lt_of_le hi h.size) hn).trans (h.block i hi hn)⟩
theorem step_append_vals {ops : Array Oper} {o : Oper} {a : Act} {w : World} {K : Act → World → Prop} {Q : Exit → Act → World → Prop} {E : Prop} (hgd : o.guard = none) (s x : Operand) (t : TypeId)
    (ho : o.op = .call { callee := .builtin .append, args := #[s, x], argTypes := #[t, t] })
    (base : Nat) (e : TypeId) (i : TypeInfo) (z : Value) (bytes : Nat) (ht : Try.prog.underlying t = some (.slice e)) (hi : Try.prog.info? e = some i) (hz : i.zero = some z)
    (hsize : i.size = 1) (hby : i.bytes = bytes) (hzs : z.cells.size = 1)
    (v : Value) (n : Nat) (xs : List Value) (hs : a.eval s = v) (hown : w.ownsRow base e 1 v n xs)
    (ax : Option Addr) (m c : Nat) (news : List Value) (hx : a.eval x = .slice ax m c) (hl : news.length = m) (hnews : CellsAt w ax news) (h1 : ∀ u ∈ news, u.oneCell' = true)
    (h63 : n + m ≤ maxLen) (hbytes : (n + m) * bytes ≤ 140737488355328) (hbase : base ≤ w.heap.size)
    (h : ∀ v' w', w'.ownsRow base e 1 v' (n + m) (xs ++ news) → w.grownBy w' v.ownBlock → (v'.ownBlock = v.ownBlock ∨ v'.ownBlock = some w.heap.size) → K (a.put o.dst v') w') :
    if Region.wanted o (yielded ops a.tmps) = true then Oper.wp Try.prog o a w K Q else E := by
  have hw : Region.wanted o (yielded ops a.tmps) = true := by simp [Region.wanted, hgd]
  rw [if_pos hw]
  unfold Oper.wp execOp
  cases ax with
  | none =>
    have hm : news = [] := by
      rcases hnews with e | ⟨b, off, e, _⟩
      · exact e
      · cases e
    subst hm
    obtain rfl : m = 0 := by rw [← hl]; rfl
    have hr := run_none (P := Try.prog) t o.type e i 1 ht hi v n xs hown c
    simp only [ho, resolve, invoke, builtin, Sem.run_bind, Sem.run_pure, Result.andThen_ok, List.map_toArray, List.map_cons, List.map_nil, hs, hx, hr]
    exact h v w (by simpa using hown) ⟨rfl, rfl, rfl, Nat.le_refl _, fun _ _ _ => rfl⟩ (.inl rfl)
  | some ad =>
    have hn : ∀ j u, news[j]? = some u → w.cell? (ad.add j) = some u := by
      rcases hnews with e | ⟨b, off, e, _, hc⟩
      · subst e; intro j u hu; simp at hu
      · cases e; exact hc
    obtain ⟨v', w', hr, h2, h3, _, h4⟩ := run_append_own_at (P := Try.prog) w base t o.type e i z 1 bytes ht hi hz hsize hby hzs (by decide) v n xs hown ad m c news (by omega) hn h1 h63 hbytes hbase
    simp only [ho, resolve, invoke, builtin, Sem.run_bind, Sem.run_pure, Result.andThen_ok, List.map_toArray, List.map_cons, List.map_nil, hs, hx, hr]
    exact h v' w' h2 h3 h4
/-- Two lists of rows, the second one's blocks behind the first one's. -/
theorem rows_append {lo mid hi : Nat} {w : World} {cs cs' : List Value} {rows rows' : List (List Int)} (h : RowsOf lo mid w cs rows) (h' : RowsOf mid hi w cs' rows') (h1 : lo ≤ mid) (h2 : mid ≤ hi) : RowsOf lo hi w (cs ++ cs') (rows ++ rows') := by
  have L : ∀ k, k < rows.length → (cs ++ cs').getD k undef = cs.getD k undef ∧ (rows ++ rows').getD k [] = rows.getD k [] := fun k e => by
    have := h.1
    constructor
    · rw [List.getD_eq_getElem?_getD, List.getD_eq_getElem?_getD, List.getElem?_append_left (by omega)]
    · rw [List.getD_eq_getElem?_getD, List.getD_eq_getElem?_getD, List.getElem?_append_left e]
  have R : ∀ k, ¬ k < rows.length → (cs ++ cs').getD k undef = cs'.getD (k - rows.length) undef ∧ (rows ++ rows').getD k [] = rows'.getD (k - rows.length) [] := fun k e => by
    have := h.1
    constructor
    · rw [List.getD_eq_getElem?_getD, List.getD_eq_getElem?_getD, List.getElem?_append_right (by omega), this]
    · rw [List.getD_eq_getElem?_getD, List.getD_eq_getElem?_getD, List.getElem?_append_right (by omega)]
  refine ⟨by rw [List.length_append, List.length_append, h.1, h'.1], fun k hk => ?_, fun i j hij hj g hg => ?_⟩
  · rw [List.length_append] at hk
    by_cases e : k < rows.length
    · rw [(L k e).1, (L k e).2]; exact (h.2.1 k e).mono (Nat.le_refl _) h2
    · rw [(R k e).1, (R k e).2]; exact (h'.2.1 _ (by omega)).mono h1 (Nat.le_refl _)
  · rw [List.length_append] at hj
    by_cases e : j < rows.length
    · rw [(L i (by omega)).1] at hg
      rw [(L j e).1]
      exact h.2.2 i j hij e g hg
    · rw [(R j e).1]
      by_cases e2 : i < rows.length
      · rw [(L i e2).1] at hg
        intro hg'
        have k1 := (h.2.1 i e2).lt hg
        have k2 := (h'.2.1 (j - rows.length) (by omega)).lt hg'
        omega
      · rw [(R i e2).1] at hg
        exact h'.2.2 _ _ (by omega) (by omega) g hg
/-- The outer block grows; the rows stay. -/
theorem rows_grown {lo hi b n : Nat} {w w' : World} {v : Value} {xs cs : List Value} {rows : List (List Int)} (h : RowsOf lo hi w cs rows) (ho : w.ownsRow b 22 1 v n xs) (hg : w.grownBy w' v.ownBlock) : RowsOf lo hi w' cs rows :=
  h.keep fun g _ _ hs ⟨i, hi', he⟩ => hg.block g hs fun e => ownsRow_ne ((h.2.1 i hi').1) ho (by decide) he e.symm
theorem rows_one {lo hi : Nat} {w : World} {cs : List Value} {rows : List (List Int)} (h : RowsOf lo hi w cs rows) : ∀ u ∈ cs, u.oneCell' = true := fun u hu => by
  obtain ⟨k, hk, e⟩ := List.getElem_of_mem hu
  obtain ⟨p, c, hv, _⟩ := (h.2.1 k (by have := h.1; omega)).slice
  rw [List.getD_eq_getElem?_getD, List.getElem?_eq_getElem hk] at hv
  have hv2 : u = .slice p (rows.getD k []).length c := by rw [← e]; exact hv
  rw [hv2]; simp [Value.oneCell']
theorem own_cells {b n : Nat} {e : TypeId} {w : World} {p : Option Addr} {q : Nat} {xs : List Value} (h : w.ownsRow b e 1 (.slice p n q) n xs) : CellsAt w p xs := by
  rcases h.2 with ⟨e1, h0⟩ | ⟨g, cap, cur, e1, hb, hg, _⟩
  · have := h.1
    exact .inl (List.length_eq_zero_iff.1 (by omega))
  · simp only [Value.slice.injEq] at e1
    obtain ⟨rfl, _, rfl⟩ := e1
    refine .inr ⟨g, 0, rfl, (Array.getElem?_eq_some_iff.1 hg).1, fun j u hu => ?_⟩
    exact h.cells (g := g) rfl j u hu
set_option maxRecDepth 100000 in
set_option maxHeartbeats 1500000 in
theorem spec_own0 (a : Option Addr) (zs : List Int) (c : Nat) (w : World) (hr : ints.Reads .i64 w a zs) (hn : zs.length ≤ 1048576) (h0 : zs = []) :
    Calls Try.prog 62 #[.slice a zs.length c] w (intfns.Made zs w) := by
  subst h0
  obtain ⟨i0, hi, hz0, hz1, hz2⟩ := info_parts infoInt
  have HO := Lib.hid (show (w.alloc (.cells #[] 3)).ownsRow w.heap.size 3 1 (.slice (some ⟨w.heap.size, 0, none⟩) 0 0) 0 [] from (own_empty w).1)
  have HB := Lib.hid (below_alloc w (.cells #[] 3))
  rcases a with _ | ad
  · clear hr
    go_enter Try.func62, Try.ntmps62
    go_wp2_with (at_builtin; refine Lib.wpList_append_run _ rfl _ _ _ _ rfl _ _ rfl rfl _ _ (run_none _ _ _ i0 1 Try.underlying22 hi _ _ _ HO.out _) ?_)
    go_ret
    exact ⟨_, rfl, OwnI.of HO.out, HB.out⟩
  · clear hr
    go_enter Try.func62, Try.ntmps62
    go_wp2_with (at_builtin; refine wpList_append_own _ rfl _ _ 22 rfl w.heap.size 3 i0 (.int .i64 0) 1 8 Try.underlying22 hi hz0 hz1 hz2 rfl (by decide) _ _ _ rfl HO.out ad 0 c [] rfl rfl (fun j u h => by simp at h) (fun u h => by simp at h) (by unfold maxLen; omega) (by omega) (by simp) ?_; intro v' w2 hown' hgrow _)
    go_ret
    exact ⟨_, rfl, OwnI.of hown', HB.out.grown hgrow (by simp) (fun g e => by have := (HO.out.lt g e).1; omega)⟩
theorem spec_owns (a : Option Addr) (zs : List Int) (c : Nat) (w : World) (hr : ints.Reads .i64 w a zs) (hn : zs.length ≤ 1048576) :
    Calls Try.prog 62 #[.slice a zs.length c] w (intfns.Made zs w) := by
  rcases Nat.eq_zero_or_pos zs.length with h | h
  · exact spec_own0 a zs c w hr hn (List.length_eq_zero_iff.1 h)
  · exact spec_own a zs c w hr hn h
theorem OwnC.below2 {lo hi : Nat} {w w' : World} {v : Value} {rows : List (List Int)} {cs : List Value} (h : OwnC lo hi w v rows cs) (hb : Below w.heap.size w w') : OwnC lo hi w' v rows cs :=
  ⟨ownsRow_block h.1 fun g hg => hb.block g (h.1.lt g hg).2, h.2.1, h.2.2.below hb⟩
theorem OwnC.grown2 {lo hi : Nat} {w w' : World} {v : Value} {rows : List (List Int)} {cs : List Value} {row : Option Nat} (h : OwnC lo hi w v rows cs) (hg : w.grownBy w' row) (hne : ∀ g, row = some g → hi ≤ g) : OwnC lo hi w' v rows cs :=
  ⟨ownsRow_block h.1 fun g hx => hg.block g (h.1.lt g hx).2 (fun e => by have := hne g e.symm; have := h.2.1 g hx; omega), h.2.1, h.2.2.keep fun g _ h2 hs _ => hg.block g hs (fun e => by have := hne g e.symm; omega)⟩
theorem infoSl : (Try.prog.info? 22).map (fun i => (i.zero, i.size, i.bytes)) = some (some (.slice none 0 0), 1, 24) := by kernel_rfl
theorem samp_pos {rows : List (List Int)} {zs : List Int} (h : sampleB rows zs = true) (k : Nat) (hk : k < rows.length) : 0 < (rows.getD k []).length := by
  have hr := all_at _ [] rows ((sampleB_iff _ _).1 h).2.2.2 k hk
  simp only [Bool.and_eq_true, decide_eq_true_eq] at hr
  have := (pointB_iff _).1 hr.1
  omega
theorem samp_tot {rows : List (List Int)} {zs : List Int} (h : sampleB rows zs = true) : (rows.length : Int) + (grid.tot rows : Int) ≤ 1048576 := by
  have h16 := ((sampleB_iff _ _).1 h).1
  have h4 : ∀ r ∈ rows, r.length ≤ 4 := fun r hr => by
    obtain ⟨k, hk, rfl⟩ := mem_getD rows [] r hr
    have hr := all_at _ [] rows ((sampleB_iff _ _).1 h).2.2.2 k hk
    simp only [Bool.and_eq_true, decide_eq_true_eq] at hr
    have := (pointB_iff _).1 hr.1
    omega
  have : ∀ l : List (List Int), (∀ r ∈ l, r.length ≤ 4) → grid.tot l ≤ 4 * l.length := by
    intro l
    induction l with
    | nil => intro _; simp [grid.tot]
    | cons x l ih =>
      intro hx
      have h1 := ih (fun r hr => hx r (List.mem_cons_of_mem _ hr))
      have h2 := hx x (List.mem_cons_self ..)
      simp [grid.tot] at h1 ⊢
      omega
  have := this rows h4
  omega
set_option maxRecDepth 100000 in
set_option maxHeartbeats 1500000 in
theorem spec_out (a : Option Addr) (rows : List (List Int)) (c : Nat) (a' : Option Addr) (zs : List Int) (c' : Nat) (b : Option Addr) (rows1 : List (List Int)) (d : Nat) (b' : Option Addr) (zs1 : List Int) (d' : Nat) (w : World) (hr : grid.Reads w a rows) (hz : ints.Reads .i64 w a' zs) (hr1 : grid.Reads w b rows1) (hz1 : ints.Reads .i64 w b' zs1) (hn : rows.length ≤ 1048576) (hk : zs.length ≤ 1048576) (hm : ∀ r ∈ rows, r.length ≤ 1048576) (hn1 : rows1.length ≤ 1048576) (hk1 : zs1.length ≤ 1048576) (hm1 : ∀ r ∈ rows1, r.length ≤ 1048576) (h1 : Hid (sampleB rows zs = true)) (h2 : Hid (sampleB rows1 zs1 = true)) (h : Hid (sampleB (rows ++ rows1) (zs ++ zs1) = false)) :
    Calls Try.prog 31 #[.agg #[.slice a rows.length c, .slice a' zs.length c'], .agg #[.slice b rows1.length d, .slice b' zs1.length d']] w (RetSB [] [] false w) := by
  have HMM := Lib.hid hm
  have HM1 := Lib.hid hm1
  clear hm hm1
  obtain ⟨i0, hiI, hI0, hI1, hI2⟩ := info_parts infoInt
  obtain ⟨iS, hiS, hzS0, hzS1, hzS2⟩ := info_parts infoSl
  have hS1 := (sampleB_iff _ _).1 h1.out
  have hS2 := (sampleB_iff _ _).1 h2.out
  have g1 := hS1.1
  have g2 := hS2.1
  have g3 : zs.length ≤ 16 := by have := hS1.2.1; omega
  have g4 : zs1.length ≤ 16 := by have := hS2.2.1; omega
  have HCA := Lib.hid (show ∀ W, Below w.heap.size w W → Calls Try.prog 61 #[.slice a rows.length c] W (MadeG rows W) from fun W hb => rowscopy.spec_copy a rows c W (hr.below hb) (samp_tot h1.out) (fun k hk => samp_pos h1.out k hk))
  have HCB := Lib.hid (show ∀ W, Below w.heap.size w W → Calls Try.prog 61 #[.slice b rows1.length d] W (MadeG rows1 W) from fun W hb => rowscopy.spec_copy b rows1 d W (hr1.below hb) (samp_tot h2.out) (fun k hk => samp_pos h2.out k hk))
  have HOWN := Lib.hid (show ∀ W, Below w.heap.size w W → Calls Try.prog 62 #[.slice a' zs.length c'] W (intfns.Made zs W) from fun W hb => spec_owns a' zs c' W (hz.below hb) hk)
  have HMR : ∀ r ∈ rows ++ rows1, r.length ≤ 1048576 := fun r hx => by rcases List.mem_append.1 hx with hx | hx; exact HMM.out r hx; exact HM1.out r hx
  have HKP := Lib.hid (fun (W : World) (p : Option Addr) (q : Nat) (p' : Option Addr) (q' : Nat) (k0 : grid.Reads W p (rows ++ rows1)) (k1 : ints.Reads .i64 W p' (zs ++ zs1)) => skept.spec_no p (rows ++ rows1) q p' (zs ++ zs1) q' W k0 k1 (by rw [List.length_append]; omega) (by rw [List.length_append]; omega) HMR h)
  clear hS1 hS2 HMR
  have Hhr := Lib.hid hr
  have Hhz := Lib.hid hz
  have Hhr1 := Lib.hid hr1
  have Hhz1 := Lib.hid hz1
  clear hr hz hr1 hz1
  go_enter Try.func31, Try.ntmps31
  go_wp2_with fail
  have x0_0 : (w.alloc (.cells #[.slice a rows.length c, .slice a' zs.length c'] 56)).cell? ⟨w.heap.size, 0, none⟩ = some (.slice a rows.length c) := cell_new _ _ _ (by simp) rfl
  have x0_1 : (w.alloc (.cells #[.slice a rows.length c, .slice a' zs.length c'] 56)).cell? ⟨w.heap.size, 1, none⟩ = some (.slice a' zs.length c') := cell_new _ _ _ (by simp) rfl
  have HB0 := Lib.hid (below_alloc w (.cells #[.slice a rows.length c, .slice a' zs.length c'] 56))
  replace x0_0 := cell_old (.cells #[.slice b rows1.length d, .slice b' zs1.length d'] 56) x0_0
  replace x0_1 := cell_old (.cells #[.slice b rows1.length d, .slice b' zs1.length d'] 56) x0_1
  have x1_0 : ((w.alloc (.cells #[.slice a rows.length c, .slice a' zs.length c'] 56)).alloc (.cells #[.slice b rows1.length d, .slice b' zs1.length d'] 56)).cell? ⟨w.heap.size + 1, 0, none⟩ = some (.slice b rows1.length d) := cell_new _ _ _ (by simp) rfl
  have x1_1 : ((w.alloc (.cells #[.slice a rows.length c, .slice a' zs.length c'] 56)).alloc (.cells #[.slice b rows1.length d, .slice b' zs1.length d'] 56)).cell? ⟨w.heap.size + 1, 1, none⟩ = some (.slice b' zs1.length d') := cell_new _ _ _ (by simp) rfl
  replace HB0 := Lib.hid (HB0.out.alloc (by simp) (.cells #[.slice b rows1.length d, .slice b' zs1.length d'] 56))
  replace x0_0 := cell_old (.cells #[.slice none 0 0, .slice none 0 0] 56) x0_0
  replace x0_1 := cell_old (.cells #[.slice none 0 0, .slice none 0 0] 56) x0_1
  replace x1_0 := cell_old (.cells #[.slice none 0 0, .slice none 0 0] 56) x1_0
  replace x1_1 := cell_old (.cells #[.slice none 0 0, .slice none 0 0] 56) x1_1
  have x2_0 : (((w.alloc (.cells #[.slice a rows.length c, .slice a' zs.length c'] 56)).alloc (.cells #[.slice b rows1.length d, .slice b' zs1.length d'] 56)).alloc (.cells #[.slice none 0 0, .slice none 0 0] 56)).cell? ⟨w.heap.size + 1 + 1, 0, none⟩ = some (.slice none 0 0) := cell_new _ _ _ (by simp) rfl
  have x2_1 : (((w.alloc (.cells #[.slice a rows.length c, .slice a' zs.length c'] 56)).alloc (.cells #[.slice b rows1.length d, .slice b' zs1.length d'] 56)).alloc (.cells #[.slice none 0 0, .slice none 0 0] 56)).cell? ⟨w.heap.size + 1 + 1, 1, none⟩ = some (.slice none 0 0) := cell_new _ _ _ (by simp) rfl
  have f2_0 : (((w.alloc (.cells #[.slice a rows.length c, .slice a' zs.length c'] 56)).alloc (.cells #[.slice b rows1.length d, .slice b' zs1.length d'] 56)).alloc (.cells #[.slice none 0 0, .slice none 0 0] 56)).frozen? ⟨w.heap.size + 1 + 1, 0, none⟩ = false := fro_new _ _ _ (by simp)
  have f2_1 : (((w.alloc (.cells #[.slice a rows.length c, .slice a' zs.length c'] 56)).alloc (.cells #[.slice b rows1.length d, .slice b' zs1.length d'] 56)).alloc (.cells #[.slice none 0 0, .slice none 0 0] 56)).frozen? ⟨w.heap.size + 1 + 1, 1, none⟩ = false := fro_new _ _ _ (by simp)
  replace HB0 := Lib.hid (HB0.out.alloc (by simp; omega) (.cells #[.slice none 0 0, .slice none 0 0] 56))
  have s0 : w.heap.size + 3 ≤ (((w.alloc (.cells #[.slice a rows.length c, .slice a' zs.length c'] 56)).alloc (.cells #[.slice b rows1.length d, .slice b' zs1.length d'] 56)).alloc (.cells #[.slice none 0 0, .slice none 0 0] 56)).heap.size := by simp
  generalize hw : (((w.alloc (.cells #[.slice a rows.length c, .slice a' zs.length c'] 56)).alloc (.cells #[.slice b rows1.length d, .slice b' zs1.length d'] 56)).alloc (.cells #[.slice none 0 0, .slice none 0 0] 56)) = w0 at *
  clear hw
  have n0_0 : w.heap.size < w0.heap.size := by omega
  have n0_1 : w.heap.size + 1 < w0.heap.size := by omega
  have n0_2 : w.heap.size + 1 + 1 < w0.heap.size := by omega
  refine (spec_sample a rows c a' zs c' _ (Hhr.out.below HB0.out) (Hhz.out.below HB0.out) hn hk HMM.out true h1).mono ?_
  rintro e w1 ⟨rfl, hb⟩
  have s1 : w0.heap.size ≤ w1.heap.size := hb.size
  have n1_0 : w.heap.size < w1.heap.size := by omega
  have n1_1 : w.heap.size + 1 < w1.heap.size := by omega
  have n1_2 : w.heap.size + 1 + 1 < w1.heap.size := by omega
  replace x0_0 := cell_below hb x0_0 (by omega)
  replace x0_1 := cell_below hb x0_1 (by omega)
  replace x1_0 := cell_below hb x1_0 (by omega)
  replace x1_1 := cell_below hb x1_1 (by omega)
  replace x2_0 := cell_below hb x2_0 (by omega)
  replace x2_1 := cell_below hb x2_1 (by omega)
  replace f2_0 := fro_below hb f2_0 (by omega)
  replace f2_1 := fro_below hb f2_1 (by omega)
  have HB1 := Lib.hid (HB0.out.trans (hb.mono (by omega)))
  clear hb
  go_wp2_with fail
  refine (spec_sample b rows1 d b' zs1 d' _ (Hhr1.out.below HB1.out) (Hhz1.out.below HB1.out) hn1 hk1 HM1.out true h2).mono ?_
  rintro e w2 ⟨rfl, hb⟩
  have s2 : w1.heap.size ≤ w2.heap.size := hb.size
  have n2_0 : w.heap.size < w2.heap.size := by omega
  have n2_1 : w.heap.size + 1 < w2.heap.size := by omega
  have n2_2 : w.heap.size + 1 + 1 < w2.heap.size := by omega
  replace x0_0 := cell_below hb x0_0 (by omega)
  replace x0_1 := cell_below hb x0_1 (by omega)
  replace x1_0 := cell_below hb x1_0 (by omega)
  replace x1_1 := cell_below hb x1_1 (by omega)
  replace x2_0 := cell_below hb x2_0 (by omega)
  replace x2_1 := cell_below hb x2_1 (by omega)
  replace f2_0 := fro_below hb f2_0 (by omega)
  replace f2_1 := fro_below hb f2_1 (by omega)
  have HB2 := Lib.hid (HB1.out.trans (hb.mono (by omega)))
  clear hb
  go_wp2_with fail
  refine wp_region_noPanic ?_
  refine wp_region_held_drew (S := fun w' => w'.cell? ⟨w.heap.size, 0, none⟩ = some (.slice a rows.length c) ∧ w'.cell? ⟨w.heap.size, 1, none⟩ = some (.slice a' zs.length c') ∧ w'.cell? ⟨w.heap.size + 1, 0, none⟩ = some (.slice b rows1.length d) ∧ w'.cell? ⟨w.heap.size + 1, 1, none⟩ = some (.slice b' zs1.length d')) (by kernel_rfl) ?_ (fun hHeld => ?_)
  · exact ⟨x0_0, x0_1, x1_0, x1_1⟩
  have hb : Below w2.heap.size w2 w2.drew := (Below.refl _ _).drew
  generalize hwn : w2.drew = v51 at *
  clear hwn
  have sz51 : w2.heap.size ≤ v51.heap.size := hb.size
  replace f2_0 := fro_keep hb x2_0 f2_0
  replace f2_1 := fro_keep hb x2_1 f2_1
  replace x0_0 := cell_keep hb x0_0
  replace x0_1 := cell_keep hb x0_1
  replace x1_0 := cell_keep hb x1_0
  replace x1_1 := cell_keep hb x1_1
  replace x2_0 := cell_keep hb x2_0
  replace x2_1 := cell_keep hb x2_1
  have HBh51 := Lib.hid (HB2.out.trans (hb.mono (by have := HB2.out.size; omega)))
  clear hb
  refine wpAnyH_take (i := 0) (v := ?_) rfl (by kernel_rfl) (by kernel_rfl) (by kernel_rfl) (fun _ _ _ h => h) (Or.inl ⟨by rfl, ?_⟩) (by assumption) ?_
  rotate_left
  · intro w9 hSw; (try dsimp only at hSw); go_simp; try with_reducible rfl
  try simp only [List.getElem_toArray, List.getElem_cons_succ, List.getElem_cons_zero, Act.put, List.setIfInBounds_toArray, List.set_cons_zero, List.set_cons_succ]
  refine wpAnyH_take (i := 1) (v := ?_) rfl (by kernel_rfl) (by kernel_rfl) (by kernel_rfl) (fun _ _ _ h => h) (Or.inl ⟨by rfl, ?_⟩) (by assumption) ?_
  rotate_left
  · intro w9 hSw; (try dsimp only at hSw); go_simp; try with_reducible rfl
  try simp only [List.getElem_toArray, List.getElem_cons_succ, List.getElem_cons_zero, Act.put, List.setIfInBounds_toArray, List.set_cons_zero, List.set_cons_succ]
  refine wpAnyH_take (i := 3) (v := ?_) rfl (by kernel_rfl) (by kernel_rfl) (by kernel_rfl) (fun _ _ _ h => h) (Or.inl ⟨by rfl, ?_⟩) (by assumption) ?_
  rotate_left
  · intro w9 hSw; (try dsimp only at hSw); go_simp; try with_reducible rfl
  try simp only [List.getElem_toArray, List.getElem_cons_succ, List.getElem_cons_zero, Act.put, List.setIfInBounds_toArray, List.set_cons_zero, List.set_cons_succ]
  refine wpAnyH_take (i := 4) (v := ?_) rfl (by kernel_rfl) (by kernel_rfl) (by kernel_rfl) (fun _ _ _ h => h) (Or.inl ⟨by rfl, ?_⟩) (by assumption) ?_
  rotate_left
  · intro w9 hSw; (try dsimp only at hSw); go_simp; try with_reducible rfl
  try simp only [List.getElem_toArray, List.getElem_cons_succ, List.getElem_cons_zero, Act.put, List.setIfInBounds_toArray, List.set_cons_zero, List.set_cons_succ]
  refine wpAnyH_take (i := 7) (v := ?_) rfl (by kernel_rfl) (by kernel_rfl) (by kernel_rfl) (fun _ _ _ h => h) (Or.inl ⟨by rfl, ?_⟩) (by assumption) ?_
  rotate_left
  · intro w9 hSw; (try dsimp only at hSw); go_simp; try with_reducible rfl
  try simp only [List.getElem_toArray, List.getElem_cons_succ, List.getElem_cons_zero, Act.put, List.setIfInBounds_toArray, List.set_cons_zero, List.set_cons_succ]
  refine wpAnyH_take (i := 8) (v := ?_) rfl (by kernel_rfl) (by kernel_rfl) (by kernel_rfl) (fun _ _ _ h => h) (Or.inl ⟨by rfl, ?_⟩) (by assumption) ?_
  rotate_left
  · intro w9 hSw; (try dsimp only at hSw); go_simp; try with_reducible rfl
  try simp only [List.getElem_toArray, List.getElem_cons_succ, List.getElem_cons_zero, Act.put, List.setIfInBounds_toArray, List.set_cons_zero, List.set_cons_succ]
  refine wpAnyH_take (i := 10) (v := ?_) rfl (by kernel_rfl) (by kernel_rfl) (by kernel_rfl) (fun _ _ _ h => h) (Or.inl ⟨by rfl, ?_⟩) (by assumption) ?_
  rotate_left
  · intro w9 hSw; (try dsimp only at hSw); go_simp; try with_reducible rfl
  try simp only [List.getElem_toArray, List.getElem_cons_succ, List.getElem_cons_zero, Act.put, List.setIfInBounds_toArray, List.set_cons_zero, List.set_cons_succ]
  refine wpAnyH_take (i := 11) (v := ?_) rfl (by kernel_rfl) (by kernel_rfl) (by kernel_rfl) (fun _ _ _ h => h) (Or.inl ⟨by rfl, ?_⟩) (by assumption) ?_
  rotate_left
  · intro w9 hSw; (try dsimp only at hSw); go_simp; try with_reducible rfl
  try simp only [List.getElem_toArray, List.getElem_cons_succ, List.getElem_cons_zero, Act.put, List.setIfInBounds_toArray, List.set_cons_zero, List.set_cons_succ]
  refine wpAnyH_ready (rs := [2]) (by kernel_rfl) (by simp) ?_
  refine AllReadyH.cons rfl (fun K hK => ?_) AllReadyH.nil
  clear hHeld
  go_simp
  refine (HCA.out v51 HBh51.out).mono ?_
  rintro e v52 ⟨v2, rfl, ho, hb⟩
  obtain ⟨p2, q2, rfl, _, _, _⟩ := ho.slice
  obtain ⟨cs0, ho⟩ := ho
  have sz52 : v51.heap.size ≤ v52.heap.size := hb.size
  replace f2_0 := fro_keep hb x2_0 f2_0
  replace f2_1 := fro_keep hb x2_1 f2_1
  replace x0_0 := cell_keep hb x0_0
  replace x0_1 := cell_keep hb x0_1
  replace x1_0 := cell_keep hb x1_0
  replace x1_1 := cell_keep hb x1_1
  replace x2_0 := cell_keep hb x2_0
  replace x2_1 := cell_keep hb x2_1
  have HBh52 := Lib.hid (HBh51.out.trans (hb.mono (by have := HBh51.out.size; omega)))
  clear hb
  have HA1 := Lib.hid ho
  have lo_HA1 : v51.heap.size ≤ v52.heap.size := sz52
  clear ho
  refine hK.out _ _ ?_ (fun hHeld => ?_)
  · exact ⟨x0_0, x0_1, x1_0, x1_1⟩
  clear hK K
  try simp only [List.getElem_toArray, List.getElem_cons_succ, List.getElem_cons_zero, Act.put, List.setIfInBounds_toArray, List.set_cons_zero, List.set_cons_succ]
  refine wpAnyH_ready (rs := [5]) (by kernel_rfl) (by simp) ?_
  refine AllReadyH.cons rfl (fun K hK => ?_) AllReadyH.nil
  clear hHeld
  go_simp
  refine (HCB.out v52 HBh52.out).mono ?_
  rintro e v53 ⟨v5, rfl, ho, hb⟩
  obtain ⟨p5, q5, rfl, _, _, _⟩ := ho.slice
  obtain ⟨cs1, ho⟩ := ho
  replace HA1 := Lib.hid (OwnC.below2 HA1.out hb)
  have sz53 : v52.heap.size ≤ v53.heap.size := hb.size
  replace f2_0 := fro_keep hb x2_0 f2_0
  replace f2_1 := fro_keep hb x2_1 f2_1
  replace x0_0 := cell_keep hb x0_0
  replace x0_1 := cell_keep hb x0_1
  replace x1_0 := cell_keep hb x1_0
  replace x1_1 := cell_keep hb x1_1
  replace x2_0 := cell_keep hb x2_0
  replace x2_1 := cell_keep hb x2_1
  have HBh53 := Lib.hid (HBh52.out.trans (hb.mono (by have := HBh52.out.size; omega)))
  clear hb
  have HB1 := Lib.hid ho
  have lo_HB1 : v52.heap.size ≤ v53.heap.size := sz53
  clear ho
  refine hK.out _ _ ?_ (fun hHeld => ?_)
  · exact ⟨x0_0, x0_1, x1_0, x1_1⟩
  clear hK K
  try simp only [List.getElem_toArray, List.getElem_cons_succ, List.getElem_cons_zero, Act.put, List.setIfInBounds_toArray, List.set_cons_zero, List.set_cons_succ]
  refine wpAnyH_ready (rs := [6]) (by kernel_rfl) (by simp) ?_
  refine AllReadyH.cons rfl (fun K hK => ?_) AllReadyH.nil
  clear hHeld
  refine step_append_vals rfl _ _ 28 rfl v51.heap.size 22 iS (.slice none 0 0) 24 Try.underlying28 hiS hzS0 hzS1 hzS2 rfl (.slice p2 rows.length q2) rows.length cs0 (by rfl) HA1.out.1 p5 rows1.length q5 cs1 (by rfl) (by have := HB1.out.2.2.1; exact this) (own_cells HB1.out.1) (rows_one HB1.out.2.2) (by unfold maxLen; omega) (by omega) (by omega) ?_
  intro v6 v54 hown6 hg hat6
  have hrow : ∀ g, (Value.slice p2 rows.length q2).ownBlock = some g → v51.heap.size ≤ g := fun g e => (HA1.out.1.lt g e).1
  obtain ⟨p6, q6, hv6⟩ := joinsi.own_slice hown6
  subst hv6
  have HR6 := Lib.hid (show RowsOf v51.heap.size v53.heap.size v54 (cs0 ++ cs1) (rows ++ rows1) from rows_append ((rows_grown HA1.out.2.2 HA1.out.1 hg).mono (Nat.le_refl _) (by omega)) (rows_grown HB1.out.2.2 HA1.out.1 hg) (by omega) (by omega))
  have hlt6 : ∀ g, (Value.slice p6 (rows.length + rows1.length) q6).ownBlock = some g → g < v54.heap.size := fun g e => (hown6.lt g e).2
  have HO6 := Lib.hid hown6
  have sz54 : v53.heap.size ≤ v54.heap.size := hg.size
  replace f2_0 := fro_grow hg x2_0 f2_0 (fun g e => by have := hrow g e; omega)
  replace f2_1 := fro_grow hg x2_1 f2_1 (fun g e => by have := hrow g e; omega)
  replace x0_0 := cell_grow hg x0_0 (fun g e => by have := hrow g e; omega)
  replace x0_1 := cell_grow hg x0_1 (fun g e => by have := hrow g e; omega)
  replace x1_0 := cell_grow hg x1_0 (fun g e => by have := hrow g e; omega)
  replace x1_1 := cell_grow hg x1_1 (fun g e => by have := hrow g e; omega)
  replace x2_0 := cell_grow hg x2_0 (fun g e => by have := hrow g e; omega)
  replace x2_1 := cell_grow hg x2_1 (fun g e => by have := hrow g e; omega)
  have HBh54 := Lib.hid (HBh53.out.grown hg (by have := HBh53.out.size; omega) (fun g e => by have := hrow g e; omega))
  have HC6 := Lib.hid (show OwnC v51.heap.size v54.heap.size v54 (.slice p6 (rows.length + rows1.length) q6) (rows ++ rows1) (cs0 ++ cs1) from ⟨by rw [List.length_append]; exact HO6.out, hlt6, HR6.out.mono (Nat.le_refl _) (by omega)⟩)
  clear hown6 hg hat6 hrow hlt6 HA1 HB1 HR6 HO6
  refine hK.out _ _ ?_ (fun hHeld => ?_)
  · exact ⟨x0_0, x0_1, x1_0, x1_1⟩
  clear hK K
  try simp only [List.getElem_toArray, List.getElem_cons_succ, List.getElem_cons_zero, Act.put, List.setIfInBounds_toArray, List.set_cons_zero, List.set_cons_succ]
  refine wpAnyH_ready (rs := [9]) (by kernel_rfl) (by simp) ?_
  refine AllReadyH.cons rfl (fun K hK => ?_) AllReadyH.nil
  clear hHeld
  go_simp
  refine (HOWN.out v54 HBh54.out).mono ?_
  rintro e v55 ⟨v9, rfl, ho, hb⟩
  obtain ⟨p9, q9, rfl, _, _, _⟩ := ho.slice
  replace HC6 := Lib.hid (OwnC.below2 HC6.out hb)
  have sz55 : v54.heap.size ≤ v55.heap.size := hb.size
  replace f2_0 := fro_keep hb x2_0 f2_0
  replace f2_1 := fro_keep hb x2_1 f2_1
  replace x0_0 := cell_keep hb x0_0
  replace x0_1 := cell_keep hb x0_1
  replace x1_0 := cell_keep hb x1_0
  replace x1_1 := cell_keep hb x1_1
  replace x2_0 := cell_keep hb x2_0
  replace x2_1 := cell_keep hb x2_1
  have HBh55 := Lib.hid (HBh54.out.trans (hb.mono (by have := HBh54.out.size; omega)))
  clear hb
  have HL9 := Lib.hid ho
  clear ho
  refine hK.out _ _ ?_ (fun hHeld => ?_)
  · exact ⟨x0_0, x0_1, x1_0, x1_1⟩
  clear hK K
  try simp only [List.getElem_toArray, List.getElem_cons_succ, List.getElem_cons_zero, Act.put, List.setIfInBounds_toArray, List.set_cons_zero, List.set_cons_succ]
  refine wpAnyH_ready (rs := [12]) (by kernel_rfl) (by simp) ?_
  refine AllReadyH.cons rfl (fun K hK => ?_) AllReadyH.nil
  clear hHeld
  refine step_append_vals rfl _ _ 22 rfl v54.heap.size 3 i0 (.int .i64 0) 8 Try.underlying22 hiI hI0 hI1 hI2 rfl (.slice p9 zs.length q9) zs.length (zs.map (Value.int .i64)) (by rfl) HL9.out.1 b' zs1.length d' (zs1.map (Value.int .i64)) (by rfl) (by simp) (cells_ints (Hhz1.out.below HBh55.out)) (fun u hu => by obtain ⟨z, _, rfl⟩ := List.mem_map.1 hu; simp [Value.oneCell']) (by unfold maxLen; omega) (by omega) (by omega) ?_
  intro v12 v56 hown12 hg hat12
  have hrow : ∀ g, (Value.slice p9 zs.length q9).ownBlock = some g → v54.heap.size ≤ g := fun g e => (HL9.out.1.lt g e).1
  obtain ⟨p12, q12, hv12⟩ := joinsi.own_slice hown12
  subst hv12
  replace HC6 := Lib.hid (OwnC.grown2 HC6.out hg (fun g e => by have := hrow g e; omega))
  have sz56 : v55.heap.size ≤ v56.heap.size := hg.size
  replace f2_0 := fro_grow hg x2_0 f2_0 (fun g e => by have := hrow g e; omega)
  replace f2_1 := fro_grow hg x2_1 f2_1 (fun g e => by have := hrow g e; omega)
  replace x0_0 := cell_grow hg x0_0 (fun g e => by have := hrow g e; omega)
  replace x0_1 := cell_grow hg x0_1 (fun g e => by have := hrow g e; omega)
  replace x1_0 := cell_grow hg x1_0 (fun g e => by have := hrow g e; omega)
  replace x1_1 := cell_grow hg x1_1 (fun g e => by have := hrow g e; omega)
  replace x2_0 := cell_grow hg x2_0 (fun g e => by have := hrow g e; omega)
  replace x2_1 := cell_grow hg x2_1 (fun g e => by have := hrow g e; omega)
  have HBh56 := Lib.hid (HBh55.out.grown hg (by have := HBh55.out.size; omega) (fun g e => by have := hrow g e; omega))
  have HL12 := Lib.hid (show OwnI v54.heap.size v56.heap.size v56 (.slice p12 (zs.length + zs1.length) q12) (zs ++ zs1) from ⟨by rw [List.map_append, List.length_append]; exact hown12, fun g e => (hown12.lt g e).2⟩)
  clear hown12 hg hat12 hrow HL9
  refine hK.out _ _ ?_ (fun hHeld => ?_)
  · exact ⟨x0_0, x0_1, x1_0, x1_1⟩
  clear hK K
  try simp only [List.getElem_toArray, List.getElem_cons_succ, List.getElem_cons_zero, Act.put, List.setIfInBounds_toArray, List.set_cons_zero, List.set_cons_succ]
  refine wpAnyH_take (i := 13) (v := ?_) rfl (by kernel_rfl) (by kernel_rfl) (by kernel_rfl) (fun _ _ _ h => h) (Or.inl ⟨by rfl, ?_⟩) (by assumption) ?_
  rotate_left
  · intro w9 hSw; (try dsimp only at hSw); go_simp; try with_reducible rfl
  try simp only [List.getElem_toArray, List.getElem_cons_succ, List.getElem_cons_zero, Act.put, List.setIfInBounds_toArray, List.set_cons_zero, List.set_cons_succ]
  refine wpAnyH_ready (rs := [14]) (by kernel_rfl) (by simp) ?_
  refine AllReadyH.cons rfl (fun K hK => ?_) AllReadyH.nil
  clear hHeld
  go_simp
  obtain ⟨pg, cg, hpg, hgr, _⟩ := OwnG.slice ⟨_, HC6.out⟩
  obtain ⟨pl, cl, hpl, hlr, _⟩ := HL12.out.slice
  simp only [Value.slice.injEq] at hpg hpl
  obtain ⟨rfl, hx1, rfl⟩ := hpg
  obtain ⟨rfl, hx2, rfl⟩ := hpl
  clear hx1 hx2
  have hk9 := HKP.out v56 p6 q6 p12 q12 hgr hlr
  rw [List.length_append, List.length_append] at hk9
  refine hk9.mono ?_
  rintro e v57 ⟨rfl, hb⟩
  replace HC6 := Lib.hid (OwnC.below2 HC6.out hb)
  replace HL12 := Lib.hid (HL12.out.below hb)
  clear hk9 hgr hlr
  have sz57 : v56.heap.size ≤ v57.heap.size := hb.size
  replace f2_0 := fro_keep hb x2_0 f2_0
  replace f2_1 := fro_keep hb x2_1 f2_1
  replace x0_0 := cell_keep hb x0_0
  replace x0_1 := cell_keep hb x0_1
  replace x1_0 := cell_keep hb x1_0
  replace x1_1 := cell_keep hb x1_1
  replace x2_0 := cell_keep hb x2_0
  replace x2_1 := cell_keep hb x2_1
  have HBh57 := Lib.hid (HBh56.out.trans (hb.mono (by have := HBh56.out.size; omega)))
  clear hb
  refine hK.out _ _ ?_ (fun hHeld => ?_)
  · exact ⟨x0_0, x0_1, x1_0, x1_1⟩
  clear hK K
  try simp only [List.getElem_toArray, List.getElem_cons_succ, List.getElem_cons_zero, Act.put, List.setIfInBounds_toArray, List.set_cons_zero, List.set_cons_succ]
  refine wpAnyH_take (i := 15) (v := ?_) rfl (by kernel_rfl) (by kernel_rfl) (by kernel_rfl) (fun _ _ _ h => h) (Or.inl ⟨by rfl, ?_⟩) (by assumption) ?_
  rotate_left
  · intro w9 hSw; (try dsimp only at hSw); go_simp; try with_reducible rfl
  try simp only [List.getElem_toArray, List.getElem_cons_succ, List.getElem_cons_zero, Act.put, List.setIfInBounds_toArray, List.set_cons_zero, List.set_cons_succ]
  refine wpAnyH_take (i := 16) (v := ?_) rfl (by kernel_rfl) (by kernel_rfl) (by kernel_rfl) (fun _ _ _ h => h) (Or.inl ⟨by rfl, ?_⟩) (by assumption) ?_
  rotate_left
  · intro w9 hSw; (try dsimp only at hSw); go_simp; try with_reducible rfl
  try simp only [List.getElem_toArray, List.getElem_cons_succ, List.getElem_cons_zero, Act.put, List.setIfInBounds_toArray, List.set_cons_zero, List.set_cons_succ]
  refine wpAnyH_ready (rs := [17]) (by kernel_rfl) (by simp) ?_
  refine AllReadyH.cons rfl (fun K hK => ?_) AllReadyH.nil
  clear hHeld
  go_simp
  have nx0 : ((v57.setCell ⟨w.heap.size + 1 + 1, 0, none⟩ (.slice none 0 0)).setCell ⟨w.heap.size + 1 + 1, 1, none⟩ (.slice none 0 0)).cell? ⟨w.heap.size + 1 + 1, 0, none⟩ = some (.slice none 0 0) := (World.cell?_setCell_other _ _ _ _ (by simp)).trans (World.cell?_setCell_same _ _ _ x2_0)
  have nx1 : ((v57.setCell ⟨w.heap.size + 1 + 1, 0, none⟩ (.slice none 0 0)).setCell ⟨w.heap.size + 1 + 1, 1, none⟩ (.slice none 0 0)).cell? ⟨w.heap.size + 1 + 1, 1, none⟩ = some (.slice none 0 0) := World.cell?_setCell_same _ _ _ ((World.cell?_setCell_other _ _ _ _ (by simp)).trans x2_1)
  have HBZ := Lib.hid (show Below w.heap.size w ((v57.setCell ⟨w.heap.size + 1 + 1, 0, none⟩ (.slice none 0 0)).setCell ⟨w.heap.size + 1 + 1, 1, none⟩ (.slice none 0 0)) from (HBh57.out.setCell (by simp; omega) _).setCell (by simp; omega) _)
  replace x0_0 := cell_set2 (b' := w.heap.size + 1 + 1) (o' := 1) (cell_set2 (b' := w.heap.size + 1 + 1) (o' := 0) x0_0 (by omega) (.slice none 0 0)) (by omega) (.slice none 0 0)
  replace x0_1 := cell_set2 (b' := w.heap.size + 1 + 1) (o' := 1) (cell_set2 (b' := w.heap.size + 1 + 1) (o' := 0) x0_1 (by omega) (.slice none 0 0)) (by omega) (.slice none 0 0)
  replace x1_0 := cell_set2 (b' := w.heap.size + 1 + 1) (o' := 1) (cell_set2 (b' := w.heap.size + 1 + 1) (o' := 0) x1_0 (by omega) (.slice none 0 0)) (by omega) (.slice none 0 0)
  replace x1_1 := cell_set2 (b' := w.heap.size + 1 + 1) (o' := 1) (cell_set2 (b' := w.heap.size + 1 + 1) (o' := 0) x1_1 (by omega) (.slice none 0 0)) (by omega) (.slice none 0 0)
  generalize hwn : ((v57.setCell ⟨w.heap.size + 1 + 1, 0, none⟩ (.slice none 0 0)).setCell ⟨w.heap.size + 1 + 1, 1, none⟩ (.slice none 0 0)) = v58 at *
  clear hwn x2_0 x2_1 f2_0 f2_1
  refine hK.out _ _ ?_ (fun hHeld => ?_)
  · exact ⟨x0_0, x0_1, x1_0, x1_1⟩
  clear hK K
  try simp only [List.getElem_toArray, List.getElem_cons_succ, List.getElem_cons_zero, Act.put, List.setIfInBounds_toArray, List.set_cons_zero, List.set_cons_succ]
  refine wpAnyH_ready (rs := [18]) (by kernel_rfl) (by simp) ?_
  refine AllReadyH.cons rfl (fun K hK => ?_) AllReadyH.nil
  clear hHeld
  go_simp
  refine hK.out _ _ ?_ (fun hHeld => ?_)
  · exact ⟨x0_0, x0_1, x1_0, x1_1⟩
  clear hK K
  try simp only [List.getElem_toArray, List.getElem_cons_succ, List.getElem_cons_zero, Act.put, List.setIfInBounds_toArray, List.set_cons_zero, List.set_cons_succ]
  refine wpAnyH_done (by kernel_rfl) ?_ _
  refine NoPanic.normal ?_
  clear hHeld
  go_wp2_with fail
  refine bodyPost_ret (v := .tuple #[.agg #[.slice none 0 0, .slice none 0 0], .bool false]) (by simp [results, Try.results31, go_sem, nx0, nx1]) rfl ⟨_, _, rfl, ?_, HBZ.out⟩
  exact OwnS.of (OwnG.nil w.heap.size 0 _) (OwnI.nil w.heap.size 0 _) (.inl (Nat.zero_le _)) (Nat.le_refl _) (Nat.le_refl _) (Nat.zero_le _) (Nat.zero_le _)
set_option maxRecDepth 100000 in
set_option maxHeartbeats 1500000 in
theorem spec_yes (a : Option Addr) (rows : List (List Int)) (c : Nat) (a' : Option Addr) (zs : List Int) (c' : Nat) (b : Option Addr) (rows1 : List (List Int)) (d : Nat) (b' : Option Addr) (zs1 : List Int) (d' : Nat) (w : World) (hr : grid.Reads w a rows) (hz : ints.Reads .i64 w a' zs) (hr1 : grid.Reads w b rows1) (hz1 : ints.Reads .i64 w b' zs1) (hn : rows.length ≤ 1048576) (hk : zs.length ≤ 1048576) (hm : ∀ r ∈ rows, r.length ≤ 1048576) (hn1 : rows1.length ≤ 1048576) (hk1 : zs1.length ≤ 1048576) (hm1 : ∀ r ∈ rows1, r.length ≤ 1048576) (h1 : Hid (sampleB rows zs = true)) (h2 : Hid (sampleB rows1 zs1 = true)) (h : Hid (sampleB (rows ++ rows1) (zs ++ zs1) = true)) :
    Calls Try.prog 31 #[.agg #[.slice a rows.length c, .slice a' zs.length c'], .agg #[.slice b rows1.length d, .slice b' zs1.length d']] w (RetSB (rows ++ rows1) (zs ++ zs1) true w) := by
  have HMM := Lib.hid hm
  have HM1 := Lib.hid hm1
  clear hm hm1
  obtain ⟨i0, hiI, hI0, hI1, hI2⟩ := info_parts infoInt
  obtain ⟨iS, hiS, hzS0, hzS1, hzS2⟩ := info_parts infoSl
  have hS1 := (sampleB_iff _ _).1 h1.out
  have hS2 := (sampleB_iff _ _).1 h2.out
  have g1 := hS1.1
  have g2 := hS2.1
  have g3 : zs.length ≤ 16 := by have := hS1.2.1; omega
  have g4 : zs1.length ≤ 16 := by have := hS2.2.1; omega
  have HCA := Lib.hid (show ∀ W, Below w.heap.size w W → Calls Try.prog 61 #[.slice a rows.length c] W (MadeG rows W) from fun W hb => rowscopy.spec_copy a rows c W (hr.below hb) (samp_tot h1.out) (fun k hk => samp_pos h1.out k hk))
  have HCB := Lib.hid (show ∀ W, Below w.heap.size w W → Calls Try.prog 61 #[.slice b rows1.length d] W (MadeG rows1 W) from fun W hb => rowscopy.spec_copy b rows1 d W (hr1.below hb) (samp_tot h2.out) (fun k hk => samp_pos h2.out k hk))
  have HOWN := Lib.hid (show ∀ W, Below w.heap.size w W → Calls Try.prog 62 #[.slice a' zs.length c'] W (intfns.Made zs W) from fun W hb => spec_owns a' zs c' W (hz.below hb) hk)
  have HMR : ∀ r ∈ rows ++ rows1, r.length ≤ 1048576 := fun r hx => by rcases List.mem_append.1 hx with hx | hx; exact HMM.out r hx; exact HM1.out r hx
  have HKP := Lib.hid (fun (W : World) (p : Option Addr) (q : Nat) (p' : Option Addr) (q' : Nat) (k0 : grid.Reads W p (rows ++ rows1)) (k1 : ints.Reads .i64 W p' (zs ++ zs1)) => skept.spec_yes p (rows ++ rows1) q p' (zs ++ zs1) q' W k0 k1 (by rw [List.length_append]; omega) (by rw [List.length_append]; omega) HMR h)
  clear hS1 hS2 HMR
  have Hhr := Lib.hid hr
  have Hhz := Lib.hid hz
  have Hhr1 := Lib.hid hr1
  have Hhz1 := Lib.hid hz1
  clear hr hz hr1 hz1
  go_enter Try.func31, Try.ntmps31
  go_wp2_with fail
  have x0_0 : (w.alloc (.cells #[.slice a rows.length c, .slice a' zs.length c'] 56)).cell? ⟨w.heap.size, 0, none⟩ = some (.slice a rows.length c) := cell_new _ _ _ (by simp) rfl
  have x0_1 : (w.alloc (.cells #[.slice a rows.length c, .slice a' zs.length c'] 56)).cell? ⟨w.heap.size, 1, none⟩ = some (.slice a' zs.length c') := cell_new _ _ _ (by simp) rfl
  have HB0 := Lib.hid (below_alloc w (.cells #[.slice a rows.length c, .slice a' zs.length c'] 56))
  replace x0_0 := cell_old (.cells #[.slice b rows1.length d, .slice b' zs1.length d'] 56) x0_0
  replace x0_1 := cell_old (.cells #[.slice b rows1.length d, .slice b' zs1.length d'] 56) x0_1
  have x1_0 : ((w.alloc (.cells #[.slice a rows.length c, .slice a' zs.length c'] 56)).alloc (.cells #[.slice b rows1.length d, .slice b' zs1.length d'] 56)).cell? ⟨w.heap.size + 1, 0, none⟩ = some (.slice b rows1.length d) := cell_new _ _ _ (by simp) rfl
  have x1_1 : ((w.alloc (.cells #[.slice a rows.length c, .slice a' zs.length c'] 56)).alloc (.cells #[.slice b rows1.length d, .slice b' zs1.length d'] 56)).cell? ⟨w.heap.size + 1, 1, none⟩ = some (.slice b' zs1.length d') := cell_new _ _ _ (by simp) rfl
  replace HB0 := Lib.hid (HB0.out.alloc (by simp) (.cells #[.slice b rows1.length d, .slice b' zs1.length d'] 56))
  replace x0_0 := cell_old (.cells #[.slice none 0 0, .slice none 0 0] 56) x0_0
  replace x0_1 := cell_old (.cells #[.slice none 0 0, .slice none 0 0] 56) x0_1
  replace x1_0 := cell_old (.cells #[.slice none 0 0, .slice none 0 0] 56) x1_0
  replace x1_1 := cell_old (.cells #[.slice none 0 0, .slice none 0 0] 56) x1_1
  have x2_0 : (((w.alloc (.cells #[.slice a rows.length c, .slice a' zs.length c'] 56)).alloc (.cells #[.slice b rows1.length d, .slice b' zs1.length d'] 56)).alloc (.cells #[.slice none 0 0, .slice none 0 0] 56)).cell? ⟨w.heap.size + 1 + 1, 0, none⟩ = some (.slice none 0 0) := cell_new _ _ _ (by simp) rfl
  have x2_1 : (((w.alloc (.cells #[.slice a rows.length c, .slice a' zs.length c'] 56)).alloc (.cells #[.slice b rows1.length d, .slice b' zs1.length d'] 56)).alloc (.cells #[.slice none 0 0, .slice none 0 0] 56)).cell? ⟨w.heap.size + 1 + 1, 1, none⟩ = some (.slice none 0 0) := cell_new _ _ _ (by simp) rfl
  have f2_0 : (((w.alloc (.cells #[.slice a rows.length c, .slice a' zs.length c'] 56)).alloc (.cells #[.slice b rows1.length d, .slice b' zs1.length d'] 56)).alloc (.cells #[.slice none 0 0, .slice none 0 0] 56)).frozen? ⟨w.heap.size + 1 + 1, 0, none⟩ = false := fro_new _ _ _ (by simp)
  have f2_1 : (((w.alloc (.cells #[.slice a rows.length c, .slice a' zs.length c'] 56)).alloc (.cells #[.slice b rows1.length d, .slice b' zs1.length d'] 56)).alloc (.cells #[.slice none 0 0, .slice none 0 0] 56)).frozen? ⟨w.heap.size + 1 + 1, 1, none⟩ = false := fro_new _ _ _ (by simp)
  replace HB0 := Lib.hid (HB0.out.alloc (by simp; omega) (.cells #[.slice none 0 0, .slice none 0 0] 56))
  have s0 : w.heap.size + 3 ≤ (((w.alloc (.cells #[.slice a rows.length c, .slice a' zs.length c'] 56)).alloc (.cells #[.slice b rows1.length d, .slice b' zs1.length d'] 56)).alloc (.cells #[.slice none 0 0, .slice none 0 0] 56)).heap.size := by simp
  generalize hw : (((w.alloc (.cells #[.slice a rows.length c, .slice a' zs.length c'] 56)).alloc (.cells #[.slice b rows1.length d, .slice b' zs1.length d'] 56)).alloc (.cells #[.slice none 0 0, .slice none 0 0] 56)) = w0 at *
  clear hw
  have n0_0 : w.heap.size < w0.heap.size := by omega
  have n0_1 : w.heap.size + 1 < w0.heap.size := by omega
  have n0_2 : w.heap.size + 1 + 1 < w0.heap.size := by omega
  refine (spec_sample a rows c a' zs c' _ (Hhr.out.below HB0.out) (Hhz.out.below HB0.out) hn hk HMM.out true h1).mono ?_
  rintro e w1 ⟨rfl, hb⟩
  have s1 : w0.heap.size ≤ w1.heap.size := hb.size
  have n1_0 : w.heap.size < w1.heap.size := by omega
  have n1_1 : w.heap.size + 1 < w1.heap.size := by omega
  have n1_2 : w.heap.size + 1 + 1 < w1.heap.size := by omega
  replace x0_0 := cell_below hb x0_0 (by omega)
  replace x0_1 := cell_below hb x0_1 (by omega)
  replace x1_0 := cell_below hb x1_0 (by omega)
  replace x1_1 := cell_below hb x1_1 (by omega)
  replace x2_0 := cell_below hb x2_0 (by omega)
  replace x2_1 := cell_below hb x2_1 (by omega)
  replace f2_0 := fro_below hb f2_0 (by omega)
  replace f2_1 := fro_below hb f2_1 (by omega)
  have HB1 := Lib.hid (HB0.out.trans (hb.mono (by omega)))
  clear hb
  go_wp2_with fail
  refine (spec_sample b rows1 d b' zs1 d' _ (Hhr1.out.below HB1.out) (Hhz1.out.below HB1.out) hn1 hk1 HM1.out true h2).mono ?_
  rintro e w2 ⟨rfl, hb⟩
  have s2 : w1.heap.size ≤ w2.heap.size := hb.size
  have n2_0 : w.heap.size < w2.heap.size := by omega
  have n2_1 : w.heap.size + 1 < w2.heap.size := by omega
  have n2_2 : w.heap.size + 1 + 1 < w2.heap.size := by omega
  replace x0_0 := cell_below hb x0_0 (by omega)
  replace x0_1 := cell_below hb x0_1 (by omega)
  replace x1_0 := cell_below hb x1_0 (by omega)
  replace x1_1 := cell_below hb x1_1 (by omega)
  replace x2_0 := cell_below hb x2_0 (by omega)
  replace x2_1 := cell_below hb x2_1 (by omega)
  replace f2_0 := fro_below hb f2_0 (by omega)
  replace f2_1 := fro_below hb f2_1 (by omega)
  have HB2 := Lib.hid (HB1.out.trans (hb.mono (by omega)))
  clear hb
  go_wp2_with fail
  refine wp_region_noPanic ?_
  refine wp_region_held_drew (S := fun w' => w'.cell? ⟨w.heap.size, 0, none⟩ = some (.slice a rows.length c) ∧ w'.cell? ⟨w.heap.size, 1, none⟩ = some (.slice a' zs.length c') ∧ w'.cell? ⟨w.heap.size + 1, 0, none⟩ = some (.slice b rows1.length d) ∧ w'.cell? ⟨w.heap.size + 1, 1, none⟩ = some (.slice b' zs1.length d')) (by kernel_rfl) ?_ (fun hHeld => ?_)
  · exact ⟨x0_0, x0_1, x1_0, x1_1⟩
  have hb : Below w2.heap.size w2 w2.drew := (Below.refl _ _).drew
  generalize hwn : w2.drew = v51 at *
  clear hwn
  have sz51 : w2.heap.size ≤ v51.heap.size := hb.size
  replace f2_0 := fro_keep hb x2_0 f2_0
  replace f2_1 := fro_keep hb x2_1 f2_1
  replace x0_0 := cell_keep hb x0_0
  replace x0_1 := cell_keep hb x0_1
  replace x1_0 := cell_keep hb x1_0
  replace x1_1 := cell_keep hb x1_1
  replace x2_0 := cell_keep hb x2_0
  replace x2_1 := cell_keep hb x2_1
  have HBh51 := Lib.hid (HB2.out.trans (hb.mono (by have := HB2.out.size; omega)))
  clear hb
  refine wpAnyH_take (i := 0) (v := ?_) rfl (by kernel_rfl) (by kernel_rfl) (by kernel_rfl) (fun _ _ _ h => h) (Or.inl ⟨by rfl, ?_⟩) (by assumption) ?_
  rotate_left
  · intro w9 hSw; (try dsimp only at hSw); go_simp; try with_reducible rfl
  try simp only [List.getElem_toArray, List.getElem_cons_succ, List.getElem_cons_zero, Act.put, List.setIfInBounds_toArray, List.set_cons_zero, List.set_cons_succ]
  refine wpAnyH_take (i := 1) (v := ?_) rfl (by kernel_rfl) (by kernel_rfl) (by kernel_rfl) (fun _ _ _ h => h) (Or.inl ⟨by rfl, ?_⟩) (by assumption) ?_
  rotate_left
  · intro w9 hSw; (try dsimp only at hSw); go_simp; try with_reducible rfl
  try simp only [List.getElem_toArray, List.getElem_cons_succ, List.getElem_cons_zero, Act.put, List.setIfInBounds_toArray, List.set_cons_zero, List.set_cons_succ]
  refine wpAnyH_take (i := 3) (v := ?_) rfl (by kernel_rfl) (by kernel_rfl) (by kernel_rfl) (fun _ _ _ h => h) (Or.inl ⟨by rfl, ?_⟩) (by assumption) ?_
  rotate_left
  · intro w9 hSw; (try dsimp only at hSw); go_simp; try with_reducible rfl
  try simp only [List.getElem_toArray, List.getElem_cons_succ, List.getElem_cons_zero, Act.put, List.setIfInBounds_toArray, List.set_cons_zero, List.set_cons_succ]
  refine wpAnyH_take (i := 4) (v := ?_) rfl (by kernel_rfl) (by kernel_rfl) (by kernel_rfl) (fun _ _ _ h => h) (Or.inl ⟨by rfl, ?_⟩) (by assumption) ?_
  rotate_left
  · intro w9 hSw; (try dsimp only at hSw); go_simp; try with_reducible rfl
  try simp only [List.getElem_toArray, List.getElem_cons_succ, List.getElem_cons_zero, Act.put, List.setIfInBounds_toArray, List.set_cons_zero, List.set_cons_succ]
  refine wpAnyH_take (i := 7) (v := ?_) rfl (by kernel_rfl) (by kernel_rfl) (by kernel_rfl) (fun _ _ _ h => h) (Or.inl ⟨by rfl, ?_⟩) (by assumption) ?_
  rotate_left
  · intro w9 hSw; (try dsimp only at hSw); go_simp; try with_reducible rfl
  try simp only [List.getElem_toArray, List.getElem_cons_succ, List.getElem_cons_zero, Act.put, List.setIfInBounds_toArray, List.set_cons_zero, List.set_cons_succ]
  refine wpAnyH_take (i := 8) (v := ?_) rfl (by kernel_rfl) (by kernel_rfl) (by kernel_rfl) (fun _ _ _ h => h) (Or.inl ⟨by rfl, ?_⟩) (by assumption) ?_
  rotate_left
  · intro w9 hSw; (try dsimp only at hSw); go_simp; try with_reducible rfl
  try simp only [List.getElem_toArray, List.getElem_cons_succ, List.getElem_cons_zero, Act.put, List.setIfInBounds_toArray, List.set_cons_zero, List.set_cons_succ]
  refine wpAnyH_take (i := 10) (v := ?_) rfl (by kernel_rfl) (by kernel_rfl) (by kernel_rfl) (fun _ _ _ h => h) (Or.inl ⟨by rfl, ?_⟩) (by assumption) ?_
  rotate_left
  · intro w9 hSw; (try dsimp only at hSw); go_simp; try with_reducible rfl
  try simp only [List.getElem_toArray, List.getElem_cons_succ, List.getElem_cons_zero, Act.put, List.setIfInBounds_toArray, List.set_cons_zero, List.set_cons_succ]
  refine wpAnyH_take (i := 11) (v := ?_) rfl (by kernel_rfl) (by kernel_rfl) (by kernel_rfl) (fun _ _ _ h => h) (Or.inl ⟨by rfl, ?_⟩) (by assumption) ?_
  rotate_left
  · intro w9 hSw; (try dsimp only at hSw); go_simp; try with_reducible rfl
  try simp only [List.getElem_toArray, List.getElem_cons_succ, List.getElem_cons_zero, Act.put, List.setIfInBounds_toArray, List.set_cons_zero, List.set_cons_succ]
  refine wpAnyH_ready (rs := [2]) (by kernel_rfl) (by simp) ?_
  refine AllReadyH.cons rfl (fun K hK => ?_) AllReadyH.nil
  clear hHeld
  go_simp
  refine (HCA.out v51 HBh51.out).mono ?_
  rintro e v52 ⟨v2, rfl, ho, hb⟩
  obtain ⟨p2, q2, rfl, _, _, _⟩ := ho.slice
  obtain ⟨cs0, ho⟩ := ho
  have sz52 : v51.heap.size ≤ v52.heap.size := hb.size
  replace f2_0 := fro_keep hb x2_0 f2_0
  replace f2_1 := fro_keep hb x2_1 f2_1
  replace x0_0 := cell_keep hb x0_0
  replace x0_1 := cell_keep hb x0_1
  replace x1_0 := cell_keep hb x1_0
  replace x1_1 := cell_keep hb x1_1
  replace x2_0 := cell_keep hb x2_0
  replace x2_1 := cell_keep hb x2_1
  have HBh52 := Lib.hid (HBh51.out.trans (hb.mono (by have := HBh51.out.size; omega)))
  clear hb
  have HA1 := Lib.hid ho
  have lo_HA1 : v51.heap.size ≤ v52.heap.size := sz52
  clear ho
  refine hK.out _ _ ?_ (fun hHeld => ?_)
  · exact ⟨x0_0, x0_1, x1_0, x1_1⟩
  clear hK K
  try simp only [List.getElem_toArray, List.getElem_cons_succ, List.getElem_cons_zero, Act.put, List.setIfInBounds_toArray, List.set_cons_zero, List.set_cons_succ]
  refine wpAnyH_ready (rs := [5]) (by kernel_rfl) (by simp) ?_
  refine AllReadyH.cons rfl (fun K hK => ?_) AllReadyH.nil
  clear hHeld
  go_simp
  refine (HCB.out v52 HBh52.out).mono ?_
  rintro e v53 ⟨v5, rfl, ho, hb⟩
  obtain ⟨p5, q5, rfl, _, _, _⟩ := ho.slice
  obtain ⟨cs1, ho⟩ := ho
  replace HA1 := Lib.hid (OwnC.below2 HA1.out hb)
  have sz53 : v52.heap.size ≤ v53.heap.size := hb.size
  replace f2_0 := fro_keep hb x2_0 f2_0
  replace f2_1 := fro_keep hb x2_1 f2_1
  replace x0_0 := cell_keep hb x0_0
  replace x0_1 := cell_keep hb x0_1
  replace x1_0 := cell_keep hb x1_0
  replace x1_1 := cell_keep hb x1_1
  replace x2_0 := cell_keep hb x2_0
  replace x2_1 := cell_keep hb x2_1
  have HBh53 := Lib.hid (HBh52.out.trans (hb.mono (by have := HBh52.out.size; omega)))
  clear hb
  have HB1 := Lib.hid ho
  have lo_HB1 : v52.heap.size ≤ v53.heap.size := sz53
  clear ho
  refine hK.out _ _ ?_ (fun hHeld => ?_)
  · exact ⟨x0_0, x0_1, x1_0, x1_1⟩
  clear hK K
  try simp only [List.getElem_toArray, List.getElem_cons_succ, List.getElem_cons_zero, Act.put, List.setIfInBounds_toArray, List.set_cons_zero, List.set_cons_succ]
  refine wpAnyH_ready (rs := [6]) (by kernel_rfl) (by simp) ?_
  refine AllReadyH.cons rfl (fun K hK => ?_) AllReadyH.nil
  clear hHeld
  refine step_append_vals rfl _ _ 28 rfl v51.heap.size 22 iS (.slice none 0 0) 24 Try.underlying28 hiS hzS0 hzS1 hzS2 rfl (.slice p2 rows.length q2) rows.length cs0 (by rfl) HA1.out.1 p5 rows1.length q5 cs1 (by rfl) (by have := HB1.out.2.2.1; exact this) (own_cells HB1.out.1) (rows_one HB1.out.2.2) (by unfold maxLen; omega) (by omega) (by omega) ?_
  intro v6 v54 hown6 hg hat6
  have hrow : ∀ g, (Value.slice p2 rows.length q2).ownBlock = some g → v51.heap.size ≤ g := fun g e => (HA1.out.1.lt g e).1
  obtain ⟨p6, q6, hv6⟩ := joinsi.own_slice hown6
  subst hv6
  have HR6 := Lib.hid (show RowsOf v51.heap.size v53.heap.size v54 (cs0 ++ cs1) (rows ++ rows1) from rows_append ((rows_grown HA1.out.2.2 HA1.out.1 hg).mono (Nat.le_refl _) (by omega)) (rows_grown HB1.out.2.2 HA1.out.1 hg) (by omega) (by omega))
  have hlt6 : ∀ g, (Value.slice p6 (rows.length + rows1.length) q6).ownBlock = some g → g < v54.heap.size := fun g e => (hown6.lt g e).2
  have HO6 := Lib.hid hown6
  have sz54 : v53.heap.size ≤ v54.heap.size := hg.size
  replace f2_0 := fro_grow hg x2_0 f2_0 (fun g e => by have := hrow g e; omega)
  replace f2_1 := fro_grow hg x2_1 f2_1 (fun g e => by have := hrow g e; omega)
  replace x0_0 := cell_grow hg x0_0 (fun g e => by have := hrow g e; omega)
  replace x0_1 := cell_grow hg x0_1 (fun g e => by have := hrow g e; omega)
  replace x1_0 := cell_grow hg x1_0 (fun g e => by have := hrow g e; omega)
  replace x1_1 := cell_grow hg x1_1 (fun g e => by have := hrow g e; omega)
  replace x2_0 := cell_grow hg x2_0 (fun g e => by have := hrow g e; omega)
  replace x2_1 := cell_grow hg x2_1 (fun g e => by have := hrow g e; omega)
  have HBh54 := Lib.hid (HBh53.out.grown hg (by have := HBh53.out.size; omega) (fun g e => by have := hrow g e; omega))
  have HC6 := Lib.hid (show OwnC v51.heap.size v54.heap.size v54 (.slice p6 (rows.length + rows1.length) q6) (rows ++ rows1) (cs0 ++ cs1) from ⟨by rw [List.length_append]; exact HO6.out, hlt6, HR6.out.mono (Nat.le_refl _) (by omega)⟩)
  clear hown6 hg hat6 hrow hlt6 HA1 HB1 HR6 HO6
  refine hK.out _ _ ?_ (fun hHeld => ?_)
  · exact ⟨x0_0, x0_1, x1_0, x1_1⟩
  clear hK K
  try simp only [List.getElem_toArray, List.getElem_cons_succ, List.getElem_cons_zero, Act.put, List.setIfInBounds_toArray, List.set_cons_zero, List.set_cons_succ]
  refine wpAnyH_ready (rs := [9]) (by kernel_rfl) (by simp) ?_
  refine AllReadyH.cons rfl (fun K hK => ?_) AllReadyH.nil
  clear hHeld
  go_simp
  refine (HOWN.out v54 HBh54.out).mono ?_
  rintro e v55 ⟨v9, rfl, ho, hb⟩
  obtain ⟨p9, q9, rfl, _, _, _⟩ := ho.slice
  replace HC6 := Lib.hid (OwnC.below2 HC6.out hb)
  have sz55 : v54.heap.size ≤ v55.heap.size := hb.size
  replace f2_0 := fro_keep hb x2_0 f2_0
  replace f2_1 := fro_keep hb x2_1 f2_1
  replace x0_0 := cell_keep hb x0_0
  replace x0_1 := cell_keep hb x0_1
  replace x1_0 := cell_keep hb x1_0
  replace x1_1 := cell_keep hb x1_1
  replace x2_0 := cell_keep hb x2_0
  replace x2_1 := cell_keep hb x2_1
  have HBh55 := Lib.hid (HBh54.out.trans (hb.mono (by have := HBh54.out.size; omega)))
  clear hb
  have HL9 := Lib.hid ho
  clear ho
  refine hK.out _ _ ?_ (fun hHeld => ?_)
  · exact ⟨x0_0, x0_1, x1_0, x1_1⟩
  clear hK K
  try simp only [List.getElem_toArray, List.getElem_cons_succ, List.getElem_cons_zero, Act.put, List.setIfInBounds_toArray, List.set_cons_zero, List.set_cons_succ]
  refine wpAnyH_ready (rs := [12]) (by kernel_rfl) (by simp) ?_
  refine AllReadyH.cons rfl (fun K hK => ?_) AllReadyH.nil
  clear hHeld
  refine step_append_vals rfl _ _ 22 rfl v54.heap.size 3 i0 (.int .i64 0) 8 Try.underlying22 hiI hI0 hI1 hI2 rfl (.slice p9 zs.length q9) zs.length (zs.map (Value.int .i64)) (by rfl) HL9.out.1 b' zs1.length d' (zs1.map (Value.int .i64)) (by rfl) (by simp) (cells_ints (Hhz1.out.below HBh55.out)) (fun u hu => by obtain ⟨z, _, rfl⟩ := List.mem_map.1 hu; simp [Value.oneCell']) (by unfold maxLen; omega) (by omega) (by omega) ?_
  intro v12 v56 hown12 hg hat12
  have hrow : ∀ g, (Value.slice p9 zs.length q9).ownBlock = some g → v54.heap.size ≤ g := fun g e => (HL9.out.1.lt g e).1
  obtain ⟨p12, q12, hv12⟩ := joinsi.own_slice hown12
  subst hv12
  replace HC6 := Lib.hid (OwnC.grown2 HC6.out hg (fun g e => by have := hrow g e; omega))
  have sz56 : v55.heap.size ≤ v56.heap.size := hg.size
  replace f2_0 := fro_grow hg x2_0 f2_0 (fun g e => by have := hrow g e; omega)
  replace f2_1 := fro_grow hg x2_1 f2_1 (fun g e => by have := hrow g e; omega)
  replace x0_0 := cell_grow hg x0_0 (fun g e => by have := hrow g e; omega)
  replace x0_1 := cell_grow hg x0_1 (fun g e => by have := hrow g e; omega)
  replace x1_0 := cell_grow hg x1_0 (fun g e => by have := hrow g e; omega)
  replace x1_1 := cell_grow hg x1_1 (fun g e => by have := hrow g e; omega)
  replace x2_0 := cell_grow hg x2_0 (fun g e => by have := hrow g e; omega)
  replace x2_1 := cell_grow hg x2_1 (fun g e => by have := hrow g e; omega)
  have HBh56 := Lib.hid (HBh55.out.grown hg (by have := HBh55.out.size; omega) (fun g e => by have := hrow g e; omega))
  have HL12 := Lib.hid (show OwnI v54.heap.size v56.heap.size v56 (.slice p12 (zs.length + zs1.length) q12) (zs ++ zs1) from ⟨by rw [List.map_append, List.length_append]; exact hown12, fun g e => (hown12.lt g e).2⟩)
  clear hown12 hg hat12 hrow HL9
  refine hK.out _ _ ?_ (fun hHeld => ?_)
  · exact ⟨x0_0, x0_1, x1_0, x1_1⟩
  clear hK K
  try simp only [List.getElem_toArray, List.getElem_cons_succ, List.getElem_cons_zero, Act.put, List.setIfInBounds_toArray, List.set_cons_zero, List.set_cons_succ]
  refine wpAnyH_take (i := 13) (v := ?_) rfl (by kernel_rfl) (by kernel_rfl) (by kernel_rfl) (fun _ _ _ h => h) (Or.inl ⟨by rfl, ?_⟩) (by assumption) ?_
  rotate_left
  · intro w9 hSw; (try dsimp only at hSw); go_simp; try with_reducible rfl
  try simp only [List.getElem_toArray, List.getElem_cons_succ, List.getElem_cons_zero, Act.put, List.setIfInBounds_toArray, List.set_cons_zero, List.set_cons_succ]
  refine wpAnyH_ready (rs := [14]) (by kernel_rfl) (by simp) ?_
  refine AllReadyH.cons rfl (fun K hK => ?_) AllReadyH.nil
  clear hHeld
  go_simp
  obtain ⟨pg, cg, hpg, hgr, _⟩ := OwnG.slice ⟨_, HC6.out⟩
  obtain ⟨pl, cl, hpl, hlr, _⟩ := HL12.out.slice
  simp only [Value.slice.injEq] at hpg hpl
  obtain ⟨rfl, hx1, rfl⟩ := hpg
  obtain ⟨rfl, hx2, rfl⟩ := hpl
  clear hx1 hx2
  have hk9 := HKP.out v56 p6 q6 p12 q12 hgr hlr
  rw [List.length_append, List.length_append] at hk9
  refine hk9.mono ?_
  rintro e v57 ⟨rfl, hb⟩
  replace HC6 := Lib.hid (OwnC.below2 HC6.out hb)
  replace HL12 := Lib.hid (HL12.out.below hb)
  clear hk9 hgr hlr
  have sz57 : v56.heap.size ≤ v57.heap.size := hb.size
  replace f2_0 := fro_keep hb x2_0 f2_0
  replace f2_1 := fro_keep hb x2_1 f2_1
  replace x0_0 := cell_keep hb x0_0
  replace x0_1 := cell_keep hb x0_1
  replace x1_0 := cell_keep hb x1_0
  replace x1_1 := cell_keep hb x1_1
  replace x2_0 := cell_keep hb x2_0
  replace x2_1 := cell_keep hb x2_1
  have HBh57 := Lib.hid (HBh56.out.trans (hb.mono (by have := HBh56.out.size; omega)))
  clear hb
  refine hK.out _ _ ?_ (fun hHeld => ?_)
  · exact ⟨x0_0, x0_1, x1_0, x1_1⟩
  clear hK K
  try simp only [List.getElem_toArray, List.getElem_cons_succ, List.getElem_cons_zero, Act.put, List.setIfInBounds_toArray, List.set_cons_zero, List.set_cons_succ]
  refine wpAnyH_take (i := 15) (v := ?_) rfl (by kernel_rfl) (by kernel_rfl) (by kernel_rfl) (fun _ _ _ h => h) (Or.inl ⟨by rfl, ?_⟩) (by assumption) ?_
  rotate_left
  · intro w9 hSw; (try dsimp only at hSw); go_simp; try with_reducible rfl
  try simp only [List.getElem_toArray, List.getElem_cons_succ, List.getElem_cons_zero, Act.put, List.setIfInBounds_toArray, List.set_cons_zero, List.set_cons_succ]
  refine wpAnyH_take (i := 16) (v := ?_) rfl (by kernel_rfl) (by kernel_rfl) (by kernel_rfl) (fun _ _ _ h => h) (Or.inl ⟨by rfl, ?_⟩) (by assumption) ?_
  rotate_left
  · intro w9 hSw; (try dsimp only at hSw); go_simp; try with_reducible rfl
  try simp only [List.getElem_toArray, List.getElem_cons_succ, List.getElem_cons_zero, Act.put, List.setIfInBounds_toArray, List.set_cons_zero, List.set_cons_succ]
  refine wpAnyH_ready (rs := [17]) (by kernel_rfl) (by simp) ?_
  refine AllReadyH.cons rfl (fun K hK => ?_) AllReadyH.nil
  clear hHeld
  go_simp
  have nx0 : ((v57.setCell ⟨w.heap.size + 1 + 1, 0, none⟩ (.slice p6 (rows.length + rows1.length) q6)).setCell ⟨w.heap.size + 1 + 1, 1, none⟩ (.slice p12 (zs.length + zs1.length) q12)).cell? ⟨w.heap.size + 1 + 1, 0, none⟩ = some (.slice p6 (rows.length + rows1.length) q6) := (World.cell?_setCell_other _ _ _ _ (by simp)).trans (World.cell?_setCell_same _ _ _ x2_0)
  have nx1 : ((v57.setCell ⟨w.heap.size + 1 + 1, 0, none⟩ (.slice p6 (rows.length + rows1.length) q6)).setCell ⟨w.heap.size + 1 + 1, 1, none⟩ (.slice p12 (zs.length + zs1.length) q12)).cell? ⟨w.heap.size + 1 + 1, 1, none⟩ = some (.slice p12 (zs.length + zs1.length) q12) := World.cell?_setCell_same _ _ _ ((World.cell?_setCell_other _ _ _ _ (by simp)).trans x2_1)
  have HBZ := Lib.hid (show Below w.heap.size w ((v57.setCell ⟨w.heap.size + 1 + 1, 0, none⟩ (.slice p6 (rows.length + rows1.length) q6)).setCell ⟨w.heap.size + 1 + 1, 1, none⟩ (.slice p12 (zs.length + zs1.length) q12)) from (HBh57.out.setCell (by simp; omega) _).setCell (by simp; omega) _)
  have HSZ := Lib.hid (show OwnS w.heap.size ((v57.setCell ⟨w.heap.size + 1 + 1, 0, none⟩ (.slice p6 (rows.length + rows1.length) q6)).setCell ⟨w.heap.size + 1 + 1, 1, none⟩ (.slice p12 (zs.length + zs1.length) q12)).heap.size ((v57.setCell ⟨w.heap.size + 1 + 1, 0, none⟩ (.slice p6 (rows.length + rows1.length) q6)).setCell ⟨w.heap.size + 1 + 1, 1, none⟩ (.slice p12 (zs.length + zs1.length) q12)) (.slice p6 (rows.length + rows1.length) q6) (.slice p12 (zs.length + zs1.length) q12) (rows ++ rows1) (zs ++ zs1) from by simp only [size_set]; exact OwnS.of (((show OwnG _ _ _ _ _ from ⟨_, HC6.out⟩).set (by simp; omega) _).set (by simp; omega) _) ((HL12.out.set (by simp; omega) _).set (by simp; omega) _) (.inl (by omega)) (by omega) (by omega) (by omega) (by omega))
  replace x0_0 := cell_set2 (b' := w.heap.size + 1 + 1) (o' := 1) (cell_set2 (b' := w.heap.size + 1 + 1) (o' := 0) x0_0 (by omega) (.slice p6 (rows.length + rows1.length) q6)) (by omega) (.slice p12 (zs.length + zs1.length) q12)
  replace x0_1 := cell_set2 (b' := w.heap.size + 1 + 1) (o' := 1) (cell_set2 (b' := w.heap.size + 1 + 1) (o' := 0) x0_1 (by omega) (.slice p6 (rows.length + rows1.length) q6)) (by omega) (.slice p12 (zs.length + zs1.length) q12)
  replace x1_0 := cell_set2 (b' := w.heap.size + 1 + 1) (o' := 1) (cell_set2 (b' := w.heap.size + 1 + 1) (o' := 0) x1_0 (by omega) (.slice p6 (rows.length + rows1.length) q6)) (by omega) (.slice p12 (zs.length + zs1.length) q12)
  replace x1_1 := cell_set2 (b' := w.heap.size + 1 + 1) (o' := 1) (cell_set2 (b' := w.heap.size + 1 + 1) (o' := 0) x1_1 (by omega) (.slice p6 (rows.length + rows1.length) q6)) (by omega) (.slice p12 (zs.length + zs1.length) q12)
  generalize hwn : ((v57.setCell ⟨w.heap.size + 1 + 1, 0, none⟩ (.slice p6 (rows.length + rows1.length) q6)).setCell ⟨w.heap.size + 1 + 1, 1, none⟩ (.slice p12 (zs.length + zs1.length) q12)) = v58 at *
  clear hwn x2_0 x2_1 f2_0 f2_1
  refine hK.out _ _ ?_ (fun hHeld => ?_)
  · exact ⟨x0_0, x0_1, x1_0, x1_1⟩
  clear hK K
  try simp only [List.getElem_toArray, List.getElem_cons_succ, List.getElem_cons_zero, Act.put, List.setIfInBounds_toArray, List.set_cons_zero, List.set_cons_succ]
  refine wpAnyH_ready (rs := [18]) (by kernel_rfl) (by simp) ?_
  refine AllReadyH.cons rfl (fun K hK => ?_) AllReadyH.nil
  clear hHeld
  go_simp
  refine hK.out _ _ ?_ (fun hHeld => ?_)
  · exact ⟨x0_0, x0_1, x1_0, x1_1⟩
  clear hK K
  try simp only [List.getElem_toArray, List.getElem_cons_succ, List.getElem_cons_zero, Act.put, List.setIfInBounds_toArray, List.set_cons_zero, List.set_cons_succ]
  refine wpAnyH_done (by kernel_rfl) ?_ _
  refine NoPanic.normal ?_
  clear hHeld
  go_wp2_with fail
  refine bodyPost_ret (v := .tuple #[.agg #[.slice p6 (rows.length + rows1.length) q6, .slice p12 (zs.length + zs1.length) q12], .bool true]) (by simp [results, Try.results31, go_sem, nx0, nx1]) rfl ⟨_, _, rfl, ?_, HBZ.out⟩
  exact HSZ.out
end Go.Proofs.Ytoephhhofkmgjab.joinss
