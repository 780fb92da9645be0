/- The walk of the model's insertion of a set. -/
import Derived.Test.YtobdapalllaceaaEdge
import Derived.Test.YtobdapalllaceaaBothI
import Derived.Maps.AppendAt
import Derived.Deep.RegionHeld3
namespace Go.Proofs.Ytobdapalllaceaa.put
open Go.RowKit own pp nums setcmp setord bothi
set_option linter.unusedVariables false
attribute [local go_sem ↓] Go.wp_at_zero Go.wp_at_succ
set_option linter.unusedSimpArgs false

theorem infoSl : (Try.prog.info? 22).map (fun i => (i.zero, i.size, i.bytes)) = some (some (.slice none 0 0), 1, 24) := by kernel_rfl
theorem step_append_any {ops : Array Oper} {o : Oper} {a : Act} {w : World} {K : Act → World → Prop} {Q : Exit → Act → World → Prop} {E : Prop} (hgd : o.guard = none) (s x : Operand) (t : TypeId)
    (ho : o.op = .call { callee := .builtin .append, args := #[s, x], argTypes := #[t, t] })
    (base : Nat) (e : TypeId) (i : TypeInfo) (z : Value) (size bytes : Nat) (ht : Try.prog.underlying t = some (.slice e)) (hi : Try.prog.info? e = some i) (hz : i.zero = some z)
    (hsize : i.size = size) (hby : i.bytes = bytes) (hzs : z.cells.size = size) (hsz : 0 < size)
    (v : Value) (n : Nat) (xs : List Value) (hs : a.eval s = v) (hown : w.ownsRow base e size v n xs)
    (ad : Addr) (m c : Nat) (news : List Value) (hx : a.eval x = .slice (some ad) m c) (hl : news.length = m * size) (hnews : ∀ j u, news[j]? = some u → w.cell? (ad.add j) = some u) (h1 : ∀ u ∈ news, u.oneCell' = true)
    (h63 : n + m ≤ maxLen) (hbytes : (n + m) * bytes ≤ 140737488355328) (hbase : base ≤ w.heap.size)
    (h : ∀ v' w', w'.ownsRow base e size v' (n + m) (xs ++ news) → w.grownBy w' v.ownBlock → (v'.ownBlock = v.ownBlock ∨ v'.ownBlock = some w.heap.size) → K (a.put o.dst v') w') :
    if Region.wanted o (yielded ops a.tmps) = true then Oper.wp Try.prog o a w K Q else E := by
  have hw : Region.wanted o (yielded ops a.tmps) = true := by simp [Region.wanted, hgd]
  rw [if_pos hw]
  obtain ⟨v', w', hr, h2, h3, _, h4⟩ := run_append_own_at (P := Try.prog) w base t o.type e i z size bytes ht hi hz hsize hby hzs hsz v n xs hown ad m c news hl hnews h1 h63 hbytes hbase
  unfold Oper.wp execOp
  simp only [ho, resolve, invoke, builtin, Sem.run_bind, Sem.run_pure, Result.andThen_ok, List.map_toArray, List.map_cons, List.map_nil, hs, hx, hr]
  exact h v' w' h2 h3 h4
theorem take_some {α : Type} {l : List α} {k j : Nat} {u : α} (h : (l.take k)[j]? = some u) : l[j]? = some u := by
  rw [List.getElem?_take] at h
  split at h
  · exact h
  · cases h
theorem rows_one {lo hi : Nat} {w : World} {cs : List Value} {rows : List (List Int)} (h : RowsOf lo hi w cs rows) : ∀ u ∈ cs, u.oneCell' = true := by
  intro u hu
  obtain ⟨i, hi, rfl⟩ := List.mem_iff_getElem.1 hu
  have := h.2.1 i (by rw [← h.1]; exact hi)
  rw [List.getD_eq_getElem?_getD, List.getElem?_eq_getElem hi] at this
  obtain ⟨p, c, e, _⟩ := this.slice
  rw [show cs[i] = _ from e]
  rfl
set_option maxRecDepth 100000 in
set_option maxHeartbeats 4000000 in
theorem spec_put (lo gl cp : Nat) (cs : List Value) (rows : List (List Int)) (sa : Option Addr) (s : List Int) (sc : Nat) (w : World) (ho : w.ownsRow lo 22 1 (.slice (some ⟨gl, 0, none⟩) rows.length cp) rows.length cs) (hr : RowsOf lo w.heap.size w cs rows) (hs : ints.Reads .i64 w sa s) (hn : rows.length ≤ 256) (hm : s.length ≤ 8) (hrl : ∀ r ∈ rows, r.length ≤ 8) :
    Calls Try.prog 129 #[.slice (some ⟨gl, 0, none⟩) rows.length cp, .slice sa s.length sc] w (fun e w' => ∃ v', e = .returned v' ∧ w'.ownsRow w.heap.size 22 1 v' (rows.length + 1) (insAt cs (plcL rows s) (.slice sa s.length sc)) ∧ Below w.heap.size w w') := by
  obtain ⟨i0, hi, hz0, hz1, hz2⟩ := info_parts infoSl
  have HONE := Lib.hid (rows_one hr)
  have hcl : cs.length = rows.length := hr.1
  have HCL := Lib.hid (show ∀ j u, cs[j]? = some u → w.cell? ⟨gl, j, none⟩ = some u from fun j u hj => by rw [ho.cellAt j (by have := (List.getElem?_eq_some_iff.1 hj).1; omega)]; exact hj)
  have hgl : gl < w.heap.size := (ho.lt gl rfl).2
  have hcap : rows.length ≤ cp := by
    rcases ho.2 with ⟨e, _⟩ | ⟨g, cap, cur, e, _, _, h1, _⟩
    · cases e
    · cases e; exact h1
  have HPH := Lib.hid (plc_hit rows s)
  have HPM := Lib.hid (plc_miss rows s)
  have hpl := plc_le rows s
  have HROW := Lib.hid (show ∀ k, k < rows.length → ∃ ra rc, cs[k]? = some (.slice ra (rows.getD k []).length rc) ∧ ints.Reads .i64 w ra (rows.getD k []) ∧ (rows.getD k []).length ≤ 8 from fun k hk => by
    obtain ⟨ra, rc, e, _, _, _⟩ := (hr.2.1 k hk).slice
    have e2 : cs[k]? = some (cs.getD k undef) := by rw [List.getD_eq_getElem?_getD, List.getElem?_eq_getElem (by omega)]; rfl
    refine ⟨ra, rc, by rw [e2, e], ?_, ?_⟩
    · have := hr.2.1 k hk
      rw [e] at this
      exact this.reads
    · rw [List.getD_eq_getElem?_getD, List.getElem?_eq_getElem hk]; exact hrl _ (List.getElem_mem hk))
  have HS := Lib.hid hs
  generalize hplc : plcL rows s = pl at *
  clear hplc ho hr hrl hs
  go_enter Try.func129, Try.ntmps129
  go_wp2_with fail
  go_loopw [5] (fun i wr => ∃ k m : Nat, k ≤ pl ∧ i = .int .i64 k ∧ wr = w.drewN m) (fun i _ => rows.length - (intOf i).toNat)
  case atStart => exact ⟨0, 0, Nat.zero_le _, rfl, rfl⟩
  case round =>
    obtain ⟨kk, m, hk, rfl, rfl⟩ := hrel
    have HBM := Lib.hid (ints.below_drewN (Below.refl w.heap.size w) m)
    have k1 : (0 : Int) ≤ (kk : Int) := by omega
    by_cases hlt : kk < rows.length
    · obtain ⟨ra, rc, hck, hrd, hr8⟩ := HROW.out kk hlt
      have hcell : (w.drewN m).cell? ⟨gl, kk, none⟩ = some (.slice ra (rows.getD kk []).length rc) := HCL.out kk _ hck
      have HBF := Lib.hid (edge.spec_before ra (rows.getD kk []) rc sa s sc (w.drewN m) (hrd.below HBM.out) (HS.out.below HBM.out) (by omega) (by omega))
      have HM := Lib.hid (show ∀ n, ∃ q, (w.drewN m).drewN n = w.drewN q from fun n => ⟨_, World.drewN_drewN _ _ _⟩)
      have k2 : (kk : Int) < (rows.length : Int) := by omega
      by_cases hkp : kk < pl
      · have hb := HPH.out kk hkp
        rw [hb] at HBF
        clear hb hck hrd
        generalize rows.getD kk [] = row at *
        generalize w.drewN m = wm at *
        go_wp2_with fail
        refine HBF.out.mono ?_
        rintro e w' ⟨rfl, m2, rfl⟩
        go_wp2_with fail
        go_roundw
        case rel => obtain ⟨q, hq⟩ := HM.out m2; exact ⟨kk + 1, q, by omega, by go_num, hq⟩
        case measure => simp [intOf]; omega
      · obtain rfl : kk = pl := by omega
        have hb := HPM.out hlt
        rw [hb] at HBF
        clear hb hck hrd
        generalize rows.getD kk [] = row at *
        have HBM2 := Lib.hid (fun n => HBM.out.trans ((ints.below_drewN (Below.refl (w.drewN m).heap.size (w.drewN m)) n).mono HBM.out.size))
        clear HBM
        generalize w.drewN m = wm at *
        go_wp2_with fail
        refine HBF.out.mono ?_
        rintro e w' ⟨rfl, m2, rfl⟩
        have HBM := Lib.hid (HBM2.out m2)
        clear HBM2 HBF HM hcell
        generalize wm.drewN m2 = wm at *
        have hk1 : kk ≤ cp := by omega
        have hk2 : ¬ (cp = kk) := by omega
        go_wp2_with fail
        refine wp_region_noPanic ?_
        refine wp_region_held_drew (S := fun w' => True) (by kernel_rfl) ?_ (fun hHeld => ?_)
        · exact trivial
        have hb : Below wm.heap.size wm wm.drew := (Below.refl _ _).drew
        generalize hwn : wm.drew = v11 at *
        clear hwn
        have sz11 : wm.heap.size ≤ v11.heap.size := hb.size
        have HBh11 := Lib.hid (HBM.out.trans (hb.mono (by have := HBM.out.size; omega)))
        clear hb
        refine wpAnyH_take (i := 1) (v := ?_) rfl (by kernel_rfl) (by kernel_rfl) (by kernel_rfl) (fun _ _ _ h => h) (Or.inl ⟨by rfl, ?_⟩) (by assumption) ?_
        rotate_left
        · intro w9 hSw; (try dsimp only at hSw); go_simp; try with_reducible rfl
        try simp only [List.getElem_toArray, List.getElem_cons_succ, List.getElem_cons_zero, Act.put, List.setIfInBounds_toArray, List.set_cons_zero, List.set_cons_succ]
        refine wpAnyH_take (i := 2) (v := ?_) rfl (by kernel_rfl) (by kernel_rfl) (by kernel_rfl) (fun _ _ _ h => h) (Or.inl ⟨by rfl, ?_⟩) (by assumption) ?_
        rotate_left
        · intro w9 hSw; (try dsimp only at hSw); go_simp; try with_reducible rfl
        try simp only [List.getElem_toArray, List.getElem_cons_succ, List.getElem_cons_zero, Act.put, List.setIfInBounds_toArray, List.set_cons_zero, List.set_cons_succ]
        refine wpAnyH_take (i := 3) (v := ?_) rfl (by kernel_rfl) (by kernel_rfl) (by kernel_rfl) (fun _ _ _ h => h) (Or.inl ⟨by rfl, ?_⟩) (by assumption) ?_
        rotate_left
        · intro w9 hSw; (try dsimp only at hSw); go_simp; try with_reducible rfl
        try simp only [List.getElem_toArray, List.getElem_cons_succ, List.getElem_cons_zero, Act.put, List.setIfInBounds_toArray, List.set_cons_zero, List.set_cons_succ]
        refine wpAnyH_take (i := 5) (v := ?_) rfl (by kernel_rfl) (by kernel_rfl) (by kernel_rfl) (fun _ _ _ h => h) (Or.inl ⟨by rfl, ?_⟩) (by assumption) ?_
        rotate_left
        · intro w9 hSw; (try dsimp only at hSw); go_simp; try with_reducible rfl
        try simp only [List.getElem_toArray, List.getElem_cons_succ, List.getElem_cons_zero, Act.put, List.setIfInBounds_toArray, List.set_cons_zero, List.set_cons_succ]
        refine wpAnyH_take (i := 8) (v := ?_) rfl (by kernel_rfl) (by kernel_rfl) (by kernel_rfl) (fun _ _ _ h => h) (Or.inl ⟨by rfl, ?_⟩) (by assumption) ?_
        rotate_left
        · intro w9 hSw; (try dsimp only at hSw); go_simp; try with_reducible rfl
        try simp only [List.getElem_toArray, List.getElem_cons_succ, List.getElem_cons_zero, Act.put, List.setIfInBounds_toArray, List.set_cons_zero, List.set_cons_succ]
        refine wpAnyH_take (i := 9) (v := ?_) rfl (by kernel_rfl) (by kernel_rfl) (by kernel_rfl) (fun _ _ _ h => h) (Or.inl ⟨by rfl, ?_⟩) (by assumption) ?_
        rotate_left
        · intro w9 hSw; (try dsimp only at hSw); go_simp; try with_reducible rfl
        try simp only [List.getElem_toArray, List.getElem_cons_succ, List.getElem_cons_zero, Act.put, List.setIfInBounds_toArray, List.set_cons_zero, List.set_cons_succ]
        refine wpAnyH_take (i := 10) (v := ?_) rfl (by kernel_rfl) (by kernel_rfl) (by kernel_rfl) (fun _ _ _ h => h) (Or.inl ⟨by rfl, ?_⟩) (by assumption) ?_
        rotate_left
        · intro w9 hSw; (try dsimp only at hSw); go_simp; try with_reducible rfl
        try simp only [List.getElem_toArray, List.getElem_cons_succ, List.getElem_cons_zero, Act.put, List.setIfInBounds_toArray, List.set_cons_zero, List.set_cons_succ]
        refine wpAnyH_ready (rs := [0, 6]) (by kernel_rfl) (by simp) ?_
        refine AllReadyH.cons rfl (fun K hK => ?_) ?_
        · skip
          clear hHeld
          go_simp
          have ho0 : (v11.alloc (.cells #[] 22)).ownsRow w.heap.size 22 1 (.slice (some ⟨v11.heap.size, 0, none⟩) 0 0) 0 [] := World.ownsRow_made (base := w.heap.size) (e := 22) (size := 1) v11 #[] 0 (by have := HBh11.out.size; omega) (by unfold maxLen; omega) rfl
          have hb := below_alloc v11 (.cells #[] 22)
          have lt_v0 := size_alloc' v11 (.cells #[] 22)
          obtain ⟨B0, hB0⟩ : ∃ B0 : Nat, B0 = v11.heap.size := ⟨_, rfl⟩
          rw [← hB0] at ho0 ⊢
          have hB0l : B0 ≤ v11.heap.size ∧ v11.heap.size ≤ B0 := by omega
          clear hB0
          generalize hwn : v11.alloc (.cells #[] 22) = v12 at *
          clear hwn
          have sz12 : v11.heap.size ≤ v12.heap.size := hb.size
          have HBh12 := Lib.hid (HBh11.out.trans (hb.mono (by have := HBh11.out.size; omega)))
          clear hb
          have HO0 := Lib.hid ho0
          clear ho0
          refine hK.out _ _ ?_ (fun hHeld => ?_)
          · exact trivial
          clear hK K
          try simp only [List.getElem_toArray, List.getElem_cons_succ, List.getElem_cons_zero, Act.put, List.setIfInBounds_toArray, List.set_cons_zero, List.set_cons_succ]
          refine wpAnyH_ready (rs := [4, 6]) (by kernel_rfl) (by simp) ?_
          refine AllReadyH.cons rfl (fun K hK => ?_) ?_
          · skip
            clear hHeld
            refine step_append_any rfl _ _ 38 rfl w.heap.size 22 i0 (.slice none 0 0) 1 24 Try.underlying38 hi hz0 hz1 hz2 rfl (by decide) (Value.slice (some ⟨B0, 0, none⟩) 0 0) (0) ([]) (by rfl) HO0.out ⟨gl, 0, none⟩ kk cp (cs.take kk) (by rfl) (by rw [List.length_take]; omega) (fun j u hj => by rw [Go.WideShapes.add_plain, Nat.zero_add]; exact cell_below HBh12.out (HCL.out j u (take_some hj)) hgl) (fun u hu => HONE.out u (List.mem_of_mem_take hu)) (by unfold maxLen; omega) (by omega) (by have := HBh12.out.size; omega) ?_
            intro u1 v13 hown1 hg hat1
            have hrow : ∀ g, (Value.slice (some ⟨B0, 0, none⟩) 0 0).ownBlock = some g → w.heap.size ≤ g := fun g e => (HO0.out.lt g e).1
            have sz13 : v12.heap.size ≤ v13.heap.size := hg.size
            have HBh13 := Lib.hid (HBh12.out.grown hg (by have := HBh12.out.size; omega) (fun g e => hrow g e))
            have HO1 := Lib.hid hown1
            clear hown1 hg hat1 hrow
            refine hK.out _ _ ?_ (fun hHeld => ?_)
            · exact trivial
            clear hK K
            try simp only [List.getElem_toArray, List.getElem_cons_succ, List.getElem_cons_zero, Act.put, List.setIfInBounds_toArray, List.set_cons_zero, List.set_cons_succ]
            refine wpAnyH_ready (rs := [6]) (by kernel_rfl) (by simp) ?_
            refine AllReadyH.cons rfl (fun K hK => ?_) AllReadyH.nil
            clear hHeld
            go_simp
            have nx_0 : (v13.alloc (.cells #[.slice sa s.length sc] 22)).cell? ⟨v13.heap.size, 0, none⟩ = some (.slice sa s.length sc) := cell_new _ _ _ rfl rfl
            have HNE1 := Lib.hid (show ∀ g, u1.ownBlock = some g → g ≠ v13.heap.size from fun g e => by have := (HO1.out.lt g e).2; omega)
            replace HO1 := Lib.hid (HO1.out.alloc (.cells #[.slice sa s.length sc] 22))
            have hb := below_alloc v13 (.cells #[.slice sa s.length sc] 22)
            have lt_nx := size_alloc' v13 (.cells #[.slice sa s.length sc] 22)
            obtain ⟨BN, hBN⟩ : ∃ BN : Nat, BN = v13.heap.size := ⟨_, rfl⟩
            rw [← hBN] at nx_0 HNE1 ⊢
            have hBNl : BN ≤ v13.heap.size ∧ v13.heap.size ≤ BN := by omega
            clear hBN
            generalize hwn : v13.alloc (.cells #[.slice sa s.length sc] 22) = v14 at *
            clear hwn
            have sz14 : v13.heap.size ≤ v14.heap.size := hb.size
            have HBh14 := Lib.hid (HBh13.out.trans (hb.mono (by have := HBh13.out.size; omega)))
            clear hb
            refine hK.out _ _ ?_ (fun hHeld => ?_)
            · exact trivial
            clear hK K
            try simp only [List.getElem_toArray, List.getElem_cons_succ, List.getElem_cons_zero, Act.put, List.setIfInBounds_toArray, List.set_cons_zero, List.set_cons_succ]
            refine wpAnyH_ready (rs := [7]) (by kernel_rfl) (by simp) ?_
            refine AllReadyH.cons rfl (fun K hK => ?_) AllReadyH.nil
            clear hHeld
            refine step_append_any rfl _ _ 38 rfl w.heap.size 22 i0 (.slice none 0 0) 1 24 Try.underlying38 hi hz0 hz1 hz2 rfl (by decide) u1 (0 + kk) ([] ++ (cs.take kk)) (by rfl) HO1.out ⟨BN, 0, none⟩ 1 1 [.slice sa s.length sc] (by rfl) (by rfl) (fun j u hj => by (have h7 : j = 0 := by (have := (List.getElem?_eq_some_iff.1 hj).1; simp at this; exact this)); subst h7; simp at hj; subst hj; simpa [Addr.add] using nx_0) (by simp [Value.oneCell']) (by unfold maxLen; omega) (by omega) (by have := HBh14.out.size; omega) ?_
            intro u2 v15 hown2 hg hat2
            have nx_00 := nx_0
            have hnb : ∀ g, u1.ownBlock = some g → BN ≠ g := fun g e => Ne.symm (HNE1.out g e)
            have hrow : ∀ g, u1.ownBlock = some g → w.heap.size ≤ g := fun g e => (HO1.out.lt g e).1
            have sz15 : v14.heap.size ≤ v15.heap.size := hg.size
            replace nx_0 := cell_grow hg nx_0 (fun g e => hnb g e)
            have HBh15 := Lib.hid (HBh14.out.grown hg (by have := HBh14.out.size; omega) (fun g e => hrow g e))
            have HO2 := Lib.hid hown2
            have HNE2 := Lib.hid (show ∀ g, u2.ownBlock = some g → g ≠ BN from fun g e => by (rcases hat2 with e2 | e2); (rw [e2] at e; exact HNE1.out g e); (have h7 : v14.heap.size = g := by (rw [e2] at e; simpa using e)); (have h8 := block_lt_of_cell (a := ⟨BN, 0, none⟩) nx_00); omega)
            clear hown2 hg hat2 hrow hnb
            clear nx_00
            refine hK.out _ _ ?_ (fun hHeld => ?_)
            · exact trivial
            clear hK K
            try simp only [List.getElem_toArray, List.getElem_cons_succ, List.getElem_cons_zero, Act.put, List.setIfInBounds_toArray, List.set_cons_zero, List.set_cons_succ]
            refine wpAnyH_ready (rs := [11]) (by kernel_rfl) (by simp) ?_
            refine AllReadyH.cons rfl (fun K hK => ?_) AllReadyH.nil
            clear hHeld
            refine step_append_any rfl _ _ 38 rfl w.heap.size 22 i0 (.slice none 0 0) 1 24 Try.underlying38 hi hz0 hz1 hz2 rfl (by decide) u2 (0 + kk + 1) ([] ++ (cs.take kk) ++ [.slice sa s.length sc]) (by rfl) HO2.out ⟨gl, kk, none⟩ (rows.length - kk) (cp - kk) (cs.drop kk) (by rfl) (by rw [List.length_drop]; omega) (fun j u hj => by rw [Go.WideShapes.add_plain]; exact cell_below HBh15.out (HCL.out (kk + j) u (by rw [List.getElem?_drop] at hj; exact hj)) hgl) (fun u hu => HONE.out u (List.mem_of_mem_drop hu)) (by unfold maxLen; omega) (by omega) (by have := HBh15.out.size; omega) ?_
            intro u3 v16 hown3 hg hat3
            have nx_00 := nx_0
            have hnb : ∀ g, u2.ownBlock = some g → BN ≠ g := fun g e => Ne.symm (HNE2.out g e)
            have hrow : ∀ g, u2.ownBlock = some g → w.heap.size ≤ g := fun g e => (HO2.out.lt g e).1
            have sz16 : v15.heap.size ≤ v16.heap.size := hg.size
            replace nx_0 := cell_grow hg nx_0 (fun g e => hnb g e)
            have HBh16 := Lib.hid (HBh15.out.grown hg (by have := HBh15.out.size; omega) (fun g e => hrow g e))
            have HO3 := Lib.hid hown3
            have HNE3 := Lib.hid (show ∀ g, u3.ownBlock = some g → g ≠ BN from fun g e => by (rcases hat3 with e2 | e2); (rw [e2] at e; exact HNE2.out g e); (have h7 : v15.heap.size = g := by (rw [e2] at e; simpa using e)); (have h8 := block_lt_of_cell (a := ⟨BN, 0, none⟩) nx_00); omega)
            clear hown3 hg hat3 hrow hnb
            clear nx_00
            refine hK.out _ _ ?_ (fun hHeld => ?_)
            · exact trivial
            clear hK K
            try simp only [List.getElem_toArray, List.getElem_cons_succ, List.getElem_cons_zero, Act.put, List.setIfInBounds_toArray, List.set_cons_zero, List.set_cons_succ]
            refine wpAnyH_take (i := 12) (v := ?_) rfl (by kernel_rfl) (by kernel_rfl) (by kernel_rfl) (fun _ _ _ h => h) (Or.inl ⟨by rfl, ?_⟩) (by assumption) ?_
            rotate_left
            · intro w9 hSw; (try dsimp only at hSw); go_simp; try with_reducible rfl
            try simp only [List.getElem_toArray, List.getElem_cons_succ, List.getElem_cons_zero, Act.put, List.setIfInBounds_toArray, List.set_cons_zero, List.set_cons_succ]
            refine wpAnyH_done (by kernel_rfl) ?_ _
            refine NoPanic.normal ?_
            clear hHeld
            have hfin : v16.ownsRow w.heap.size 22 1 u3 (rows.length + 1) (insAt cs kk (.slice sa s.length sc)) := by
              have h7 := HO3.out
              rw [show 0 + kk + 1 + (rows.length - kk) = rows.length + 1 by omega] at h7
              simpa [insAt, List.append_assoc] using h7
            have HF := Lib.hid hfin
            clear hfin
            go_wp2_with fail
            go_ret
            exact ⟨u3, rfl, HF.out, HBh16.out⟩
          refine AllReadyH.cons rfl (fun K hK => ?_) AllReadyH.nil
          clear hHeld
          go_simp
          have nx_0 : (v12.alloc (.cells #[.slice sa s.length sc] 22)).cell? ⟨v12.heap.size, 0, none⟩ = some (.slice sa s.length sc) := cell_new _ _ _ rfl rfl
          have HNE0 := Lib.hid (show ∀ g, (Value.slice (some ⟨B0, 0, none⟩) 0 0).ownBlock = some g → g ≠ v12.heap.size from fun g e => by have := (HO0.out.lt g e).2; omega)
          replace HO0 := Lib.hid (HO0.out.alloc (.cells #[.slice sa s.length sc] 22))
          have hb := below_alloc v12 (.cells #[.slice sa s.length sc] 22)
          have lt_nx := size_alloc' v12 (.cells #[.slice sa s.length sc] 22)
          obtain ⟨BN, hBN⟩ : ∃ BN : Nat, BN = v12.heap.size := ⟨_, rfl⟩
          rw [← hBN] at nx_0 HNE0 ⊢
          have hBNl : BN ≤ v12.heap.size ∧ v12.heap.size ≤ BN := by omega
          clear hBN
          generalize hwn : v12.alloc (.cells #[.slice sa s.length sc] 22) = v13 at *
          clear hwn
          have sz13 : v12.heap.size ≤ v13.heap.size := hb.size
          have HBh13 := Lib.hid (HBh12.out.trans (hb.mono (by have := HBh12.out.size; omega)))
          clear hb
          refine hK.out _ _ ?_ (fun hHeld => ?_)
          · exact trivial
          clear hK K
          try simp only [List.getElem_toArray, List.getElem_cons_succ, List.getElem_cons_zero, Act.put, List.setIfInBounds_toArray, List.set_cons_zero, List.set_cons_succ]
          refine wpAnyH_ready (rs := [4]) (by kernel_rfl) (by simp) ?_
          refine AllReadyH.cons rfl (fun K hK => ?_) AllReadyH.nil
          clear hHeld
          refine step_append_any rfl _ _ 38 rfl w.heap.size 22 i0 (.slice none 0 0) 1 24 Try.underlying38 hi hz0 hz1 hz2 rfl (by decide) (Value.slice (some ⟨B0, 0, none⟩) 0 0) (0) ([]) (by rfl) HO0.out ⟨gl, 0, none⟩ kk cp (cs.take kk) (by rfl) (by rw [List.length_take]; omega) (fun j u hj => by rw [Go.WideShapes.add_plain, Nat.zero_add]; exact cell_below HBh13.out (HCL.out j u (take_some hj)) hgl) (fun u hu => HONE.out u (List.mem_of_mem_take hu)) (by unfold maxLen; omega) (by omega) (by have := HBh13.out.size; omega) ?_
          intro u1 v14 hown1 hg hat1
          have nx_00 := nx_0
          have hnb : ∀ g, (Value.slice (some ⟨B0, 0, none⟩) 0 0).ownBlock = some g → BN ≠ g := fun g e => Ne.symm (HNE0.out g e)
          have hrow : ∀ g, (Value.slice (some ⟨B0, 0, none⟩) 0 0).ownBlock = some g → w.heap.size ≤ g := fun g e => (HO0.out.lt g e).1
          have sz14 : v13.heap.size ≤ v14.heap.size := hg.size
          replace nx_0 := cell_grow hg nx_0 (fun g e => hnb g e)
          have HBh14 := Lib.hid (HBh13.out.grown hg (by have := HBh13.out.size; omega) (fun g e => hrow g e))
          have HO1 := Lib.hid hown1
          have HNE1 := Lib.hid (show ∀ g, u1.ownBlock = some g → g ≠ BN from fun g e => by (rcases hat1 with e2 | e2); (rw [e2] at e; exact HNE0.out g e); (have h7 : v13.heap.size = g := by (rw [e2] at e; simpa using e)); (have h8 := block_lt_of_cell (a := ⟨BN, 0, none⟩) nx_00); omega)
          clear hown1 hg hat1 hrow hnb
          clear nx_00
          refine hK.out _ _ ?_ (fun hHeld => ?_)
          · exact trivial
          clear hK K
          try simp only [List.getElem_toArray, List.getElem_cons_succ, List.getElem_cons_zero, Act.put, List.setIfInBounds_toArray, List.set_cons_zero, List.set_cons_succ]
          refine wpAnyH_ready (rs := [7]) (by kernel_rfl) (by simp) ?_
          refine AllReadyH.cons rfl (fun K hK => ?_) AllReadyH.nil
          clear hHeld
          refine step_append_any rfl _ _ 38 rfl w.heap.size 22 i0 (.slice none 0 0) 1 24 Try.underlying38 hi hz0 hz1 hz2 rfl (by decide) u1 (0 + kk) ([] ++ (cs.take kk)) (by rfl) HO1.out ⟨BN, 0, none⟩ 1 1 [.slice sa s.length sc] (by rfl) (by rfl) (fun j u hj => by (have h7 : j = 0 := by (have := (List.getElem?_eq_some_iff.1 hj).1; simp at this; exact this)); subst h7; simp at hj; subst hj; simpa [Addr.add] using nx_0) (by simp [Value.oneCell']) (by unfold maxLen; omega) (by omega) (by have := HBh14.out.size; omega) ?_
          intro u2 v15 hown2 hg hat2
          have nx_00 := nx_0
          have hnb : ∀ g, u1.ownBlock = some g → BN ≠ g := fun g e => Ne.symm (HNE1.out g e)
          have hrow : ∀ g, u1.ownBlock = some g → w.heap.size ≤ g := fun g e => (HO1.out.lt g e).1
          have sz15 : v14.heap.size ≤ v15.heap.size := hg.size
          replace nx_0 := cell_grow hg nx_0 (fun g e => hnb g e)
          have HBh15 := Lib.hid (HBh14.out.grown hg (by have := HBh14.out.size; omega) (fun g e => hrow g e))
          have HO2 := Lib.hid hown2
          have HNE2 := Lib.hid (show ∀ g, u2.ownBlock = some g → g ≠ BN from fun g e => by (rcases hat2 with e2 | e2); (rw [e2] at e; exact HNE1.out g e); (have h7 : v14.heap.size = g := by (rw [e2] at e; simpa using e)); (have h8 := block_lt_of_cell (a := ⟨BN, 0, none⟩) nx_00); omega)
          clear hown2 hg hat2 hrow hnb
          clear nx_00
          refine hK.out _ _ ?_ (fun hHeld => ?_)
          · exact trivial
          clear hK K
          try simp only [List.getElem_toArray, List.getElem_cons_succ, List.getElem_cons_zero, Act.put, List.setIfInBounds_toArray, List.set_cons_zero, List.set_cons_succ]
          refine wpAnyH_ready (rs := [11]) (by kernel_rfl) (by simp) ?_
          refine AllReadyH.cons rfl (fun K hK => ?_) AllReadyH.nil
          clear hHeld
          refine step_append_any rfl _ _ 38 rfl w.heap.size 22 i0 (.slice none 0 0) 1 24 Try.underlying38 hi hz0 hz1 hz2 rfl (by decide) u2 (0 + kk + 1) ([] ++ (cs.take kk) ++ [.slice sa s.length sc]) (by rfl) HO2.out ⟨gl, kk, none⟩ (rows.length - kk) (cp - kk) (cs.drop kk) (by rfl) (by rw [List.length_drop]; omega) (fun j u hj => by rw [Go.WideShapes.add_plain]; exact cell_below HBh15.out (HCL.out (kk + j) u (by rw [List.getElem?_drop] at hj; exact hj)) hgl) (fun u hu => HONE.out u (List.mem_of_mem_drop hu)) (by unfold maxLen; omega) (by omega) (by have := HBh15.out.size; omega) ?_
          intro u3 v16 hown3 hg hat3
          have nx_00 := nx_0
          have hnb : ∀ g, u2.ownBlock = some g → BN ≠ g := fun g e => Ne.symm (HNE2.out g e)
          have hrow : ∀ g, u2.ownBlock = some g → w.heap.size ≤ g := fun g e => (HO2.out.lt g e).1
          have sz16 : v15.heap.size ≤ v16.heap.size := hg.size
          replace nx_0 := cell_grow hg nx_0 (fun g e => hnb g e)
          have HBh16 := Lib.hid (HBh15.out.grown hg (by have := HBh15.out.size; omega) (fun g e => hrow g e))
          have HO3 := Lib.hid hown3
          have HNE3 := Lib.hid (show ∀ g, u3.ownBlock = some g → g ≠ BN from fun g e => by (rcases hat3 with e2 | e2); (rw [e2] at e; exact HNE2.out g e); (have h7 : v15.heap.size = g := by (rw [e2] at e; simpa using e)); (have h8 := block_lt_of_cell (a := ⟨BN, 0, none⟩) nx_00); omega)
          clear hown3 hg hat3 hrow hnb
          clear nx_00
          refine hK.out _ _ ?_ (fun hHeld => ?_)
          · exact trivial
          clear hK K
          try simp only [List.getElem_toArray, List.getElem_cons_succ, List.getElem_cons_zero, Act.put, List.setIfInBounds_toArray, List.set_cons_zero, List.set_cons_succ]
          refine wpAnyH_take (i := 12) (v := ?_) rfl (by kernel_rfl) (by kernel_rfl) (by kernel_rfl) (fun _ _ _ h => h) (Or.inl ⟨by rfl, ?_⟩) (by assumption) ?_
          rotate_left
          · intro w9 hSw; (try dsimp only at hSw); go_simp; try with_reducible rfl
          try simp only [List.getElem_toArray, List.getElem_cons_succ, List.getElem_cons_zero, Act.put, List.setIfInBounds_toArray, List.set_cons_zero, List.set_cons_succ]
          refine wpAnyH_done (by kernel_rfl) ?_ _
          refine NoPanic.normal ?_
          clear hHeld
          have hfin : v16.ownsRow w.heap.size 22 1 u3 (rows.length + 1) (insAt cs kk (.slice sa s.length sc)) := by
            have h7 := HO3.out
            rw [show 0 + kk + 1 + (rows.length - kk) = rows.length + 1 by omega] at h7
            simpa [insAt, List.append_assoc] using h7
          have HF := Lib.hid hfin
          clear hfin
          go_wp2_with fail
          go_ret
          exact ⟨u3, rfl, HF.out, HBh16.out⟩
        refine AllReadyH.cons rfl (fun K hK => ?_) AllReadyH.nil
        clear hHeld
        go_simp
        have nx_0 : (v11.alloc (.cells #[.slice sa s.length sc] 22)).cell? ⟨v11.heap.size, 0, none⟩ = some (.slice sa s.length sc) := cell_new _ _ _ rfl rfl
        have hb := below_alloc v11 (.cells #[.slice sa s.length sc] 22)
        have lt_nx := size_alloc' v11 (.cells #[.slice sa s.length sc] 22)
        obtain ⟨BN, hBN⟩ : ∃ BN : Nat, BN = v11.heap.size := ⟨_, rfl⟩
        rw [← hBN] at nx_0  ⊢
        have hBNl : BN ≤ v11.heap.size ∧ v11.heap.size ≤ BN := by omega
        clear hBN
        generalize hwn : v11.alloc (.cells #[.slice sa s.length sc] 22) = v12 at *
        clear hwn
        have sz12 : v11.heap.size ≤ v12.heap.size := hb.size
        have HBh12 := Lib.hid (HBh11.out.trans (hb.mono (by have := HBh11.out.size; omega)))
        clear hb
        refine hK.out _ _ ?_ (fun hHeld => ?_)
        · exact trivial
        clear hK K
        try simp only [List.getElem_toArray, List.getElem_cons_succ, List.getElem_cons_zero, Act.put, List.setIfInBounds_toArray, List.set_cons_zero, List.set_cons_succ]
        refine wpAnyH_ready (rs := [0]) (by kernel_rfl) (by simp) ?_
        refine AllReadyH.cons rfl (fun K hK => ?_) AllReadyH.nil
        clear hHeld
        go_simp
        have ho0 : (v12.alloc (.cells #[] 22)).ownsRow w.heap.size 22 1 (.slice (some ⟨v12.heap.size, 0, none⟩) 0 0) 0 [] := World.ownsRow_made (base := w.heap.size) (e := 22) (size := 1) v12 #[] 0 (by have := HBh12.out.size; omega) (by unfold maxLen; omega) rfl
        have hb := below_alloc v12 (.cells #[] 22)
        have lt_v0 := size_alloc' v12 (.cells #[] 22)
        have hne0 : BN ≠ v12.heap.size := by omega
        obtain ⟨B0, hB0⟩ : ∃ B0 : Nat, B0 = v12.heap.size := ⟨_, rfl⟩
        rw [← hB0] at ho0 ⊢
        have hB0l : B0 ≤ v12.heap.size ∧ v12.heap.size ≤ B0 := by omega
        clear hB0
        generalize hwn : v12.alloc (.cells #[] 22) = v13 at *
        clear hwn
        have sz13 : v12.heap.size ≤ v13.heap.size := hb.size
        replace nx_0 := cell_keep hb nx_0
        have HBh13 := Lib.hid (HBh12.out.trans (hb.mono (by have := HBh12.out.size; omega)))
        clear hb
        have HO0 := Lib.hid ho0
        clear ho0
        have HNE0 := Lib.hid (show ∀ g, (Value.slice (some ⟨B0, 0, none⟩) 0 0).ownBlock = some g → g ≠ BN from fun g e => by (have e2 : B0 = g := by simpa [Value.ownBlock] using e); omega)
        refine hK.out _ _ ?_ (fun hHeld => ?_)
        · exact trivial
        clear hK K
        try simp only [List.getElem_toArray, List.getElem_cons_succ, List.getElem_cons_zero, Act.put, List.setIfInBounds_toArray, List.set_cons_zero, List.set_cons_succ]
        refine wpAnyH_ready (rs := [4]) (by kernel_rfl) (by simp) ?_
        refine AllReadyH.cons rfl (fun K hK => ?_) AllReadyH.nil
        clear hHeld
        refine step_append_any rfl _ _ 38 rfl w.heap.size 22 i0 (.slice none 0 0) 1 24 Try.underlying38 hi hz0 hz1 hz2 rfl (by decide) (Value.slice (some ⟨B0, 0, none⟩) 0 0) (0) ([]) (by rfl) HO0.out ⟨gl, 0, none⟩ kk cp (cs.take kk) (by rfl) (by rw [List.length_take]; omega) (fun j u hj => by rw [Go.WideShapes.add_plain, Nat.zero_add]; exact cell_below HBh13.out (HCL.out j u (take_some hj)) hgl) (fun u hu => HONE.out u (List.mem_of_mem_take hu)) (by unfold maxLen; omega) (by omega) (by have := HBh13.out.size; omega) ?_
        intro u1 v14 hown1 hg hat1
        have nx_00 := nx_0
        have hnb : ∀ g, (Value.slice (some ⟨B0, 0, none⟩) 0 0).ownBlock = some g → BN ≠ g := fun g e => Ne.symm (HNE0.out g e)
        have hrow : ∀ g, (Value.slice (some ⟨B0, 0, none⟩) 0 0).ownBlock = some g → w.heap.size ≤ g := fun g e => (HO0.out.lt g e).1
        have sz14 : v13.heap.size ≤ v14.heap.size := hg.size
        replace nx_0 := cell_grow hg nx_0 (fun g e => hnb g e)
        have HBh14 := Lib.hid (HBh13.out.grown hg (by have := HBh13.out.size; omega) (fun g e => hrow g e))
        have HO1 := Lib.hid hown1
        have HNE1 := Lib.hid (show ∀ g, u1.ownBlock = some g → g ≠ BN from fun g e => by (rcases hat1 with e2 | e2); (rw [e2] at e; exact HNE0.out g e); (have h7 : v13.heap.size = g := by (rw [e2] at e; simpa using e)); (have h8 := block_lt_of_cell (a := ⟨BN, 0, none⟩) nx_00); omega)
        clear hown1 hg hat1 hrow hnb
        clear nx_00
        refine hK.out _ _ ?_ (fun hHeld => ?_)
        · exact trivial
        clear hK K
        try simp only [List.getElem_toArray, List.getElem_cons_succ, List.getElem_cons_zero, Act.put, List.setIfInBounds_toArray, List.set_cons_zero, List.set_cons_succ]
        refine wpAnyH_ready (rs := [7]) (by kernel_rfl) (by simp) ?_
        refine AllReadyH.cons rfl (fun K hK => ?_) AllReadyH.nil
        clear hHeld
        refine step_append_any rfl _ _ 38 rfl w.heap.size 22 i0 (.slice none 0 0) 1 24 Try.underlying38 hi hz0 hz1 hz2 rfl (by decide) u1 (0 + kk) ([] ++ (cs.take kk)) (by rfl) HO1.out ⟨BN, 0, none⟩ 1 1 [.slice sa s.length sc] (by rfl) (by rfl) (fun j u hj => by (have h7 : j = 0 := by (have := (List.getElem?_eq_some_iff.1 hj).1; simp at this; exact this)); subst h7; simp at hj; subst hj; simpa [Addr.add] using nx_0) (by simp [Value.oneCell']) (by unfold maxLen; omega) (by omega) (by have := HBh14.out.size; omega) ?_
        intro u2 v15 hown2 hg hat2
        have nx_00 := nx_0
        have hnb : ∀ g, u1.ownBlock = some g → BN ≠ g := fun g e => Ne.symm (HNE1.out g e)
        have hrow : ∀ g, u1.ownBlock = some g → w.heap.size ≤ g := fun g e => (HO1.out.lt g e).1
        have sz15 : v14.heap.size ≤ v15.heap.size := hg.size
        replace nx_0 := cell_grow hg nx_0 (fun g e => hnb g e)
        have HBh15 := Lib.hid (HBh14.out.grown hg (by have := HBh14.out.size; omega) (fun g e => hrow g e))
        have HO2 := Lib.hid hown2
        have HNE2 := Lib.hid (show ∀ g, u2.ownBlock = some g → g ≠ BN from fun g e => by (rcases hat2 with e2 | e2); (rw [e2] at e; exact HNE1.out g e); (have h7 : v14.heap.size = g := by (rw [e2] at e; simpa using e)); (have h8 := block_lt_of_cell (a := ⟨BN, 0, none⟩) nx_00); omega)
        clear hown2 hg hat2 hrow hnb
        clear nx_00
        refine hK.out _ _ ?_ (fun hHeld => ?_)
        · exact trivial
        clear hK K
        try simp only [List.getElem_toArray, List.getElem_cons_succ, List.getElem_cons_zero, Act.put, List.setIfInBounds_toArray, List.set_cons_zero, List.set_cons_succ]
        refine wpAnyH_ready (rs := [11]) (by kernel_rfl) (by simp) ?_
        refine AllReadyH.cons rfl (fun K hK => ?_) AllReadyH.nil
        clear hHeld
        refine step_append_any rfl _ _ 38 rfl w.heap.size 22 i0 (.slice none 0 0) 1 24 Try.underlying38 hi hz0 hz1 hz2 rfl (by decide) u2 (0 + kk + 1) ([] ++ (cs.take kk) ++ [.slice sa s.length sc]) (by rfl) HO2.out ⟨gl, kk, none⟩ (rows.length - kk) (cp - kk) (cs.drop kk) (by rfl) (by rw [List.length_drop]; omega) (fun j u hj => by rw [Go.WideShapes.add_plain]; exact cell_below HBh15.out (HCL.out (kk + j) u (by rw [List.getElem?_drop] at hj; exact hj)) hgl) (fun u hu => HONE.out u (List.mem_of_mem_drop hu)) (by unfold maxLen; omega) (by omega) (by have := HBh15.out.size; omega) ?_
        intro u3 v16 hown3 hg hat3
        have nx_00 := nx_0
        have hnb : ∀ g, u2.ownBlock = some g → BN ≠ g := fun g e => Ne.symm (HNE2.out g e)
        have hrow : ∀ g, u2.ownBlock = some g → w.heap.size ≤ g := fun g e => (HO2.out.lt g e).1
        have sz16 : v15.heap.size ≤ v16.heap.size := hg.size
        replace nx_0 := cell_grow hg nx_0 (fun g e => hnb g e)
        have HBh16 := Lib.hid (HBh15.out.grown hg (by have := HBh15.out.size; omega) (fun g e => hrow g e))
        have HO3 := Lib.hid hown3
        have HNE3 := Lib.hid (show ∀ g, u3.ownBlock = some g → g ≠ BN from fun g e => by (rcases hat3 with e2 | e2); (rw [e2] at e; exact HNE2.out g e); (have h7 : v15.heap.size = g := by (rw [e2] at e; simpa using e)); (have h8 := block_lt_of_cell (a := ⟨BN, 0, none⟩) nx_00); omega)
        clear hown3 hg hat3 hrow hnb
        clear nx_00
        refine hK.out _ _ ?_ (fun hHeld => ?_)
        · exact trivial
        clear hK K
        try simp only [List.getElem_toArray, List.getElem_cons_succ, List.getElem_cons_zero, Act.put, List.setIfInBounds_toArray, List.set_cons_zero, List.set_cons_succ]
        refine wpAnyH_take (i := 12) (v := ?_) rfl (by kernel_rfl) (by kernel_rfl) (by kernel_rfl) (fun _ _ _ h => h) (Or.inl ⟨by rfl, ?_⟩) (by assumption) ?_
        rotate_left
        · intro w9 hSw; (try dsimp only at hSw); go_simp; try with_reducible rfl
        try simp only [List.getElem_toArray, List.getElem_cons_succ, List.getElem_cons_zero, Act.put, List.setIfInBounds_toArray, List.set_cons_zero, List.set_cons_succ]
        refine wpAnyH_done (by kernel_rfl) ?_ _
        refine NoPanic.normal ?_
        clear hHeld
        have hfin : v16.ownsRow w.heap.size 22 1 u3 (rows.length + 1) (insAt cs kk (.slice sa s.length sc)) := by
          have h7 := HO3.out
          rw [show 0 + kk + 1 + (rows.length - kk) = rows.length + 1 by omega] at h7
          simpa [insAt, List.append_assoc] using h7
        have HF := Lib.hid hfin
        clear hfin
        go_wp2_with fail
        go_ret
        exact ⟨u3, rfl, HF.out, HBh16.out⟩
    · obtain rfl : kk = pl := by omega
      have hkn : kk = rows.length := by omega
      have k2 : ¬ ((kk : Int) < (rows.length : Int)) := by omega
      have HKN := Lib.hid hkn
      clear hkn
      generalize w.drewN m = wm at *
      by_cases hk2 : cp = kk
      · have hk1 : kk ≤ cp := by omega
        have HCK := Lib.hid hk2
        obtain ⟨cq, hcq⟩ : ∃ cq : Nat, cq = cp := ⟨_, rfl⟩
        go_wp2_with fail
        refine wp_region_noPanic ?_
        refine wp_region_held_drew (S := fun w' => True) (by kernel_rfl) ?_ (fun hHeld => ?_)
        · exact trivial
        have hb : Below wm.heap.size wm wm.drew := (Below.refl _ _).drew
        generalize hwn : wm.drew = v11 at *
        clear hwn
        have sz11 : wm.heap.size ≤ v11.heap.size := hb.size
        have HBh11 := Lib.hid (HBM.out.trans (hb.mono (by have := HBM.out.size; omega)))
        clear hb
        refine wpAnyH_take (i := 1) (v := ?_) rfl (by kernel_rfl) (by kernel_rfl) (by kernel_rfl) (fun _ _ _ h => h) (Or.inl ⟨by rfl, ?_⟩) (by assumption) ?_
        rotate_left
        · intro w9 hSw; (try dsimp only at hSw); go_simp; try with_reducible rfl
        try simp only [List.getElem_toArray, List.getElem_cons_succ, List.getElem_cons_zero, Act.put, List.setIfInBounds_toArray, List.set_cons_zero, List.set_cons_succ]
        refine wpAnyH_take (i := 2) (v := ?_) rfl (by kernel_rfl) (by kernel_rfl) (by kernel_rfl) (fun _ _ _ h => h) (Or.inl ⟨by rfl, ?_⟩) (by assumption) ?_
        rotate_left
        · intro w9 hSw; (try dsimp only at hSw); go_simp; try with_reducible rfl
        try simp only [List.getElem_toArray, List.getElem_cons_succ, List.getElem_cons_zero, Act.put, List.setIfInBounds_toArray, List.set_cons_zero, List.set_cons_succ]
        refine wpAnyH_take (i := 3) (v := ?_) rfl (by kernel_rfl) (by kernel_rfl) (by kernel_rfl) (fun _ _ _ h => h) (Or.inl ⟨by rfl, ?_⟩) (by assumption) ?_
        rotate_left
        · intro w9 hSw; (try dsimp only at hSw); go_simp; try with_reducible rfl
        try simp only [List.getElem_toArray, List.getElem_cons_succ, List.getElem_cons_zero, Act.put, List.setIfInBounds_toArray, List.set_cons_zero, List.set_cons_succ]
        refine wpAnyH_take (i := 5) (v := ?_) rfl (by kernel_rfl) (by kernel_rfl) (by kernel_rfl) (fun _ _ _ h => h) (Or.inl ⟨by rfl, ?_⟩) (by assumption) ?_
        rotate_left
        · intro w9 hSw; (try dsimp only at hSw); go_simp; try with_reducible rfl
        try simp only [List.getElem_toArray, List.getElem_cons_succ, List.getElem_cons_zero, Act.put, List.setIfInBounds_toArray, List.set_cons_zero, List.set_cons_succ]
        refine wpAnyH_take (i := 8) (v := ?_) rfl (by kernel_rfl) (by kernel_rfl) (by kernel_rfl) (fun _ _ _ h => h) (Or.inl ⟨by rfl, ?_⟩) (by assumption) ?_
        rotate_left
        · intro w9 hSw; (try dsimp only at hSw); go_simp; try with_reducible rfl
        try simp only [List.getElem_toArray, List.getElem_cons_succ, List.getElem_cons_zero, Act.put, List.setIfInBounds_toArray, List.set_cons_zero, List.set_cons_succ]
        refine wpAnyH_take (i := 9) (v := ?_) rfl (by kernel_rfl) (by kernel_rfl) (by kernel_rfl) (fun _ _ _ h => h) (Or.inl ⟨by rfl, ?_⟩) (by assumption) ?_
        rotate_left
        · intro w9 hSw; (try dsimp only at hSw); go_simp; try with_reducible rfl
        try simp only [List.getElem_toArray, List.getElem_cons_succ, List.getElem_cons_zero, Act.put, List.setIfInBounds_toArray, List.set_cons_zero, List.set_cons_succ]
        refine wpAnyH_take (i := 10) (v := ?_) rfl (by kernel_rfl) (by kernel_rfl) (by kernel_rfl) (fun _ _ _ h => h) (Or.inl ⟨by rfl, ?_⟩) (by assumption) ?_
        rotate_left
        · intro w9 hSw; (try dsimp only at hSw); go_simp; try with_reducible rfl
        try simp only [List.getElem_toArray, List.getElem_cons_succ, List.getElem_cons_zero, Act.put, List.setIfInBounds_toArray, List.set_cons_zero, List.set_cons_succ]
        refine wpAnyH_ready (rs := [0, 6]) (by kernel_rfl) (by simp) ?_
        refine AllReadyH.cons rfl (fun K hK => ?_) ?_
        · skip
          clear hHeld
          go_simp
          have ho0 : (v11.alloc (.cells #[] 22)).ownsRow w.heap.size 22 1 (.slice (some ⟨v11.heap.size, 0, none⟩) 0 0) 0 [] := World.ownsRow_made (base := w.heap.size) (e := 22) (size := 1) v11 #[] 0 (by have := HBh11.out.size; omega) (by unfold maxLen; omega) rfl
          have hb := below_alloc v11 (.cells #[] 22)
          have lt_v0 := size_alloc' v11 (.cells #[] 22)
          obtain ⟨B0, hB0⟩ : ∃ B0 : Nat, B0 = v11.heap.size := ⟨_, rfl⟩
          rw [← hB0] at ho0 ⊢
          have hB0l : B0 ≤ v11.heap.size ∧ v11.heap.size ≤ B0 := by omega
          clear hB0
          generalize hwn : v11.alloc (.cells #[] 22) = v12 at *
          clear hwn
          have sz12 : v11.heap.size ≤ v12.heap.size := hb.size
          have HBh12 := Lib.hid (HBh11.out.trans (hb.mono (by have := HBh11.out.size; omega)))
          clear hb
          have HO0 := Lib.hid ho0
          clear ho0
          refine hK.out _ _ ?_ (fun hHeld => ?_)
          · exact trivial
          clear hK K
          try simp only [List.getElem_toArray, List.getElem_cons_succ, List.getElem_cons_zero, Act.put, List.setIfInBounds_toArray, List.set_cons_zero, List.set_cons_succ]
          refine wpAnyH_ready (rs := [4, 6]) (by kernel_rfl) (by simp) ?_
          refine AllReadyH.cons rfl (fun K hK => ?_) ?_
          · skip
            clear hHeld
            refine step_append_any rfl _ _ 38 rfl w.heap.size 22 i0 (.slice none 0 0) 1 24 Try.underlying38 hi hz0 hz1 hz2 rfl (by decide) (Value.slice (some ⟨B0, 0, none⟩) 0 0) (0) ([]) (by rfl) HO0.out ⟨gl, 0, none⟩ kk kk (cs.take kk) (by rfl) (by rw [List.length_take]; omega) (fun j u hj => by rw [Go.WideShapes.add_plain, Nat.zero_add]; exact cell_below HBh12.out (HCL.out j u (take_some hj)) hgl) (fun u hu => HONE.out u (List.mem_of_mem_take hu)) (by unfold maxLen; omega) (by omega) (by have := HBh12.out.size; omega) ?_
            intro u1 v13 hown1 hg hat1
            have hrow : ∀ g, (Value.slice (some ⟨B0, 0, none⟩) 0 0).ownBlock = some g → w.heap.size ≤ g := fun g e => (HO0.out.lt g e).1
            have sz13 : v12.heap.size ≤ v13.heap.size := hg.size
            have HBh13 := Lib.hid (HBh12.out.grown hg (by have := HBh12.out.size; omega) (fun g e => hrow g e))
            have HO1 := Lib.hid hown1
            clear hown1 hg hat1 hrow
            refine hK.out _ _ ?_ (fun hHeld => ?_)
            · exact trivial
            clear hK K
            try simp only [List.getElem_toArray, List.getElem_cons_succ, List.getElem_cons_zero, Act.put, List.setIfInBounds_toArray, List.set_cons_zero, List.set_cons_succ]
            refine wpAnyH_ready (rs := [6]) (by kernel_rfl) (by simp) ?_
            refine AllReadyH.cons rfl (fun K hK => ?_) AllReadyH.nil
            clear hHeld
            go_simp
            have nx_0 : (v13.alloc (.cells #[.slice sa s.length sc] 22)).cell? ⟨v13.heap.size, 0, none⟩ = some (.slice sa s.length sc) := cell_new _ _ _ rfl rfl
            have HNE1 := Lib.hid (show ∀ g, u1.ownBlock = some g → g ≠ v13.heap.size from fun g e => by have := (HO1.out.lt g e).2; omega)
            replace HO1 := Lib.hid (HO1.out.alloc (.cells #[.slice sa s.length sc] 22))
            have hb := below_alloc v13 (.cells #[.slice sa s.length sc] 22)
            have lt_nx := size_alloc' v13 (.cells #[.slice sa s.length sc] 22)
            obtain ⟨BN, hBN⟩ : ∃ BN : Nat, BN = v13.heap.size := ⟨_, rfl⟩
            rw [← hBN] at nx_0 HNE1 ⊢
            have hBNl : BN ≤ v13.heap.size ∧ v13.heap.size ≤ BN := by omega
            clear hBN
            generalize hwn : v13.alloc (.cells #[.slice sa s.length sc] 22) = v14 at *
            clear hwn
            have sz14 : v13.heap.size ≤ v14.heap.size := hb.size
            have HBh14 := Lib.hid (HBh13.out.trans (hb.mono (by have := HBh13.out.size; omega)))
            clear hb
            refine hK.out _ _ ?_ (fun hHeld => ?_)
            · exact trivial
            clear hK K
            try simp only [List.getElem_toArray, List.getElem_cons_succ, List.getElem_cons_zero, Act.put, List.setIfInBounds_toArray, List.set_cons_zero, List.set_cons_succ]
            refine wpAnyH_ready (rs := [7]) (by kernel_rfl) (by simp) ?_
            refine AllReadyH.cons rfl (fun K hK => ?_) AllReadyH.nil
            clear hHeld
            refine step_append_any rfl _ _ 38 rfl w.heap.size 22 i0 (.slice none 0 0) 1 24 Try.underlying38 hi hz0 hz1 hz2 rfl (by decide) u1 (0 + kk) ([] ++ (cs.take kk)) (by rfl) HO1.out ⟨BN, 0, none⟩ 1 1 [.slice sa s.length sc] (by rfl) (by rfl) (fun j u hj => by (have h7 : j = 0 := by (have := (List.getElem?_eq_some_iff.1 hj).1; simp at this; exact this)); subst h7; simp at hj; subst hj; simpa [Addr.add] using nx_0) (by simp [Value.oneCell']) (by unfold maxLen; omega) (by omega) (by have := HBh14.out.size; omega) ?_
            intro u2 v15 hown2 hg hat2
            have nx_00 := nx_0
            have hnb : ∀ g, u1.ownBlock = some g → BN ≠ g := fun g e => Ne.symm (HNE1.out g e)
            have hrow : ∀ g, u1.ownBlock = some g → w.heap.size ≤ g := fun g e => (HO1.out.lt g e).1
            have sz15 : v14.heap.size ≤ v15.heap.size := hg.size
            replace nx_0 := cell_grow hg nx_0 (fun g e => hnb g e)
            have HBh15 := Lib.hid (HBh14.out.grown hg (by have := HBh14.out.size; omega) (fun g e => hrow g e))
            have HO2 := Lib.hid hown2
            have HNE2 := Lib.hid (show ∀ g, u2.ownBlock = some g → g ≠ BN from fun g e => by (rcases hat2 with e2 | e2); (rw [e2] at e; exact HNE1.out g e); (have h7 : v14.heap.size = g := by (rw [e2] at e; simpa using e)); (have h8 := block_lt_of_cell (a := ⟨BN, 0, none⟩) nx_00); omega)
            clear hown2 hg hat2 hrow hnb
            clear nx_00
            refine hK.out _ _ ?_ (fun hHeld => ?_)
            · exact trivial
            clear hK K
            try simp only [List.getElem_toArray, List.getElem_cons_succ, List.getElem_cons_zero, Act.put, List.setIfInBounds_toArray, List.set_cons_zero, List.set_cons_succ]
            refine wpAnyH_ready (rs := [11]) (by kernel_rfl) (by simp) ?_
            refine AllReadyH.cons rfl (fun K hK => ?_) AllReadyH.nil
            clear hHeld
            refine step_append_any rfl _ _ 38 rfl w.heap.size 22 i0 (.slice none 0 0) 1 24 Try.underlying38 hi hz0 hz1 hz2 rfl (by decide) u2 (0 + kk + 1) ([] ++ (cs.take kk) ++ [.slice sa s.length sc]) (by rfl) HO2.out ⟨gl, 0, none⟩ (rows.length - kk) 0 (cs.drop kk) (by rfl) (by rw [List.length_drop]; omega) (fun j u hj => by have h7 := (List.getElem?_eq_some_iff.1 hj).1; rw [List.length_drop] at h7; have := HKN.out; omega) (fun u hu => HONE.out u (List.mem_of_mem_drop hu)) (by unfold maxLen; omega) (by omega) (by have := HBh15.out.size; omega) ?_
            intro u3 v16 hown3 hg hat3
            have nx_00 := nx_0
            have hnb : ∀ g, u2.ownBlock = some g → BN ≠ g := fun g e => Ne.symm (HNE2.out g e)
            have hrow : ∀ g, u2.ownBlock = some g → w.heap.size ≤ g := fun g e => (HO2.out.lt g e).1
            have sz16 : v15.heap.size ≤ v16.heap.size := hg.size
            replace nx_0 := cell_grow hg nx_0 (fun g e => hnb g e)
            have HBh16 := Lib.hid (HBh15.out.grown hg (by have := HBh15.out.size; omega) (fun g e => hrow g e))
            have HO3 := Lib.hid hown3
            have HNE3 := Lib.hid (show ∀ g, u3.ownBlock = some g → g ≠ BN from fun g e => by (rcases hat3 with e2 | e2); (rw [e2] at e; exact HNE2.out g e); (have h7 : v15.heap.size = g := by (rw [e2] at e; simpa using e)); (have h8 := block_lt_of_cell (a := ⟨BN, 0, none⟩) nx_00); omega)
            clear hown3 hg hat3 hrow hnb
            clear nx_00
            refine hK.out _ _ ?_ (fun hHeld => ?_)
            · exact trivial
            clear hK K
            try simp only [List.getElem_toArray, List.getElem_cons_succ, List.getElem_cons_zero, Act.put, List.setIfInBounds_toArray, List.set_cons_zero, List.set_cons_succ]
            refine wpAnyH_take (i := 12) (v := ?_) rfl (by kernel_rfl) (by kernel_rfl) (by kernel_rfl) (fun _ _ _ h => h) (Or.inl ⟨by rfl, ?_⟩) (by assumption) ?_
            rotate_left
            · intro w9 hSw; (try dsimp only at hSw); go_simp; try with_reducible rfl
            try simp only [List.getElem_toArray, List.getElem_cons_succ, List.getElem_cons_zero, Act.put, List.setIfInBounds_toArray, List.set_cons_zero, List.set_cons_succ]
            refine wpAnyH_done (by kernel_rfl) ?_ _
            refine NoPanic.normal ?_
            clear hHeld
            have hfin : v16.ownsRow w.heap.size 22 1 u3 (rows.length + 1) (insAt cs kk (.slice sa s.length sc)) := by
              have h7 := HO3.out
              rw [show 0 + kk + 1 + (rows.length - kk) = rows.length + 1 by omega] at h7
              simpa [insAt, List.append_assoc] using h7
            have HF := Lib.hid hfin
            clear hfin
            go_wp2_with fail
            go_ret
            exact ⟨u3, rfl, HF.out, HBh16.out⟩
          refine AllReadyH.cons rfl (fun K hK => ?_) AllReadyH.nil
          clear hHeld
          go_simp
          have nx_0 : (v12.alloc (.cells #[.slice sa s.length sc] 22)).cell? ⟨v12.heap.size, 0, none⟩ = some (.slice sa s.length sc) := cell_new _ _ _ rfl rfl
          have HNE0 := Lib.hid (show ∀ g, (Value.slice (some ⟨B0, 0, none⟩) 0 0).ownBlock = some g → g ≠ v12.heap.size from fun g e => by have := (HO0.out.lt g e).2; omega)
          replace HO0 := Lib.hid (HO0.out.alloc (.cells #[.slice sa s.length sc] 22))
          have hb := below_alloc v12 (.cells #[.slice sa s.length sc] 22)
          have lt_nx := size_alloc' v12 (.cells #[.slice sa s.length sc] 22)
          obtain ⟨BN, hBN⟩ : ∃ BN : Nat, BN = v12.heap.size := ⟨_, rfl⟩
          rw [← hBN] at nx_0 HNE0 ⊢
          have hBNl : BN ≤ v12.heap.size ∧ v12.heap.size ≤ BN := by omega
          clear hBN
          generalize hwn : v12.alloc (.cells #[.slice sa s.length sc] 22) = v13 at *
          clear hwn
          have sz13 : v12.heap.size ≤ v13.heap.size := hb.size
          have HBh13 := Lib.hid (HBh12.out.trans (hb.mono (by have := HBh12.out.size; omega)))
          clear hb
          refine hK.out _ _ ?_ (fun hHeld => ?_)
          · exact trivial
          clear hK K
          try simp only [List.getElem_toArray, List.getElem_cons_succ, List.getElem_cons_zero, Act.put, List.setIfInBounds_toArray, List.set_cons_zero, List.set_cons_succ]
          refine wpAnyH_ready (rs := [4]) (by kernel_rfl) (by simp) ?_
          refine AllReadyH.cons rfl (fun K hK => ?_) AllReadyH.nil
          clear hHeld
          refine step_append_any rfl _ _ 38 rfl w.heap.size 22 i0 (.slice none 0 0) 1 24 Try.underlying38 hi hz0 hz1 hz2 rfl (by decide) (Value.slice (some ⟨B0, 0, none⟩) 0 0) (0) ([]) (by rfl) HO0.out ⟨gl, 0, none⟩ kk kk (cs.take kk) (by rfl) (by rw [List.length_take]; omega) (fun j u hj => by rw [Go.WideShapes.add_plain, Nat.zero_add]; exact cell_below HBh13.out (HCL.out j u (take_some hj)) hgl) (fun u hu => HONE.out u (List.mem_of_mem_take hu)) (by unfold maxLen; omega) (by omega) (by have := HBh13.out.size; omega) ?_
          intro u1 v14 hown1 hg hat1
          have nx_00 := nx_0
          have hnb : ∀ g, (Value.slice (some ⟨B0, 0, none⟩) 0 0).ownBlock = some g → BN ≠ g := fun g e => Ne.symm (HNE0.out g e)
          have hrow : ∀ g, (Value.slice (some ⟨B0, 0, none⟩) 0 0).ownBlock = some g → w.heap.size ≤ g := fun g e => (HO0.out.lt g e).1
          have sz14 : v13.heap.size ≤ v14.heap.size := hg.size
          replace nx_0 := cell_grow hg nx_0 (fun g e => hnb g e)
          have HBh14 := Lib.hid (HBh13.out.grown hg (by have := HBh13.out.size; omega) (fun g e => hrow g e))
          have HO1 := Lib.hid hown1
          have HNE1 := Lib.hid (show ∀ g, u1.ownBlock = some g → g ≠ BN from fun g e => by (rcases hat1 with e2 | e2); (rw [e2] at e; exact HNE0.out g e); (have h7 : v13.heap.size = g := by (rw [e2] at e; simpa using e)); (have h8 := block_lt_of_cell (a := ⟨BN, 0, none⟩) nx_00); omega)
          clear hown1 hg hat1 hrow hnb
          clear nx_00
          refine hK.out _ _ ?_ (fun hHeld => ?_)
          · exact trivial
          clear hK K
          try simp only [List.getElem_toArray, List.getElem_cons_succ, List.getElem_cons_zero, Act.put, List.setIfInBounds_toArray, List.set_cons_zero, List.set_cons_succ]
          refine wpAnyH_ready (rs := [7]) (by kernel_rfl) (by simp) ?_
          refine AllReadyH.cons rfl (fun K hK => ?_) AllReadyH.nil
          clear hHeld
          refine step_append_any rfl _ _ 38 rfl w.heap.size 22 i0 (.slice none 0 0) 1 24 Try.underlying38 hi hz0 hz1 hz2 rfl (by decide) u1 (0 + kk) ([] ++ (cs.take kk)) (by rfl) HO1.out ⟨BN, 0, none⟩ 1 1 [.slice sa s.length sc] (by rfl) (by rfl) (fun j u hj => by (have h7 : j = 0 := by (have := (List.getElem?_eq_some_iff.1 hj).1; simp at this; exact this)); subst h7; simp at hj; subst hj; simpa [Addr.add] using nx_0) (by simp [Value.oneCell']) (by unfold maxLen; omega) (by omega) (by have := HBh14.out.size; omega) ?_
          intro u2 v15 hown2 hg hat2
          have nx_00 := nx_0
          have hnb : ∀ g, u1.ownBlock = some g → BN ≠ g := fun g e => Ne.symm (HNE1.out g e)
          have hrow : ∀ g, u1.ownBlock = some g → w.heap.size ≤ g := fun g e => (HO1.out.lt g e).1
          have sz15 : v14.heap.size ≤ v15.heap.size := hg.size
          replace nx_0 := cell_grow hg nx_0 (fun g e => hnb g e)
          have HBh15 := Lib.hid (HBh14.out.grown hg (by have := HBh14.out.size; omega) (fun g e => hrow g e))
          have HO2 := Lib.hid hown2
          have HNE2 := Lib.hid (show ∀ g, u2.ownBlock = some g → g ≠ BN from fun g e => by (rcases hat2 with e2 | e2); (rw [e2] at e; exact HNE1.out g e); (have h7 : v14.heap.size = g := by (rw [e2] at e; simpa using e)); (have h8 := block_lt_of_cell (a := ⟨BN, 0, none⟩) nx_00); omega)
          clear hown2 hg hat2 hrow hnb
          clear nx_00
          refine hK.out _ _ ?_ (fun hHeld => ?_)
          · exact trivial
          clear hK K
          try simp only [List.getElem_toArray, List.getElem_cons_succ, List.getElem_cons_zero, Act.put, List.setIfInBounds_toArray, List.set_cons_zero, List.set_cons_succ]
          refine wpAnyH_ready (rs := [11]) (by kernel_rfl) (by simp) ?_
          refine AllReadyH.cons rfl (fun K hK => ?_) AllReadyH.nil
          clear hHeld
          refine step_append_any rfl _ _ 38 rfl w.heap.size 22 i0 (.slice none 0 0) 1 24 Try.underlying38 hi hz0 hz1 hz2 rfl (by decide) u2 (0 + kk + 1) ([] ++ (cs.take kk) ++ [.slice sa s.length sc]) (by rfl) HO2.out ⟨gl, 0, none⟩ (rows.length - kk) 0 (cs.drop kk) (by rfl) (by rw [List.length_drop]; omega) (fun j u hj => by have h7 := (List.getElem?_eq_some_iff.1 hj).1; rw [List.length_drop] at h7; have := HKN.out; omega) (fun u hu => HONE.out u (List.mem_of_mem_drop hu)) (by unfold maxLen; omega) (by omega) (by have := HBh15.out.size; omega) ?_
          intro u3 v16 hown3 hg hat3
          have nx_00 := nx_0
          have hnb : ∀ g, u2.ownBlock = some g → BN ≠ g := fun g e => Ne.symm (HNE2.out g e)
          have hrow : ∀ g, u2.ownBlock = some g → w.heap.size ≤ g := fun g e => (HO2.out.lt g e).1
          have sz16 : v15.heap.size ≤ v16.heap.size := hg.size
          replace nx_0 := cell_grow hg nx_0 (fun g e => hnb g e)
          have HBh16 := Lib.hid (HBh15.out.grown hg (by have := HBh15.out.size; omega) (fun g e => hrow g e))
          have HO3 := Lib.hid hown3
          have HNE3 := Lib.hid (show ∀ g, u3.ownBlock = some g → g ≠ BN from fun g e => by (rcases hat3 with e2 | e2); (rw [e2] at e; exact HNE2.out g e); (have h7 : v15.heap.size = g := by (rw [e2] at e; simpa using e)); (have h8 := block_lt_of_cell (a := ⟨BN, 0, none⟩) nx_00); omega)
          clear hown3 hg hat3 hrow hnb
          clear nx_00
          refine hK.out _ _ ?_ (fun hHeld => ?_)
          · exact trivial
          clear hK K
          try simp only [List.getElem_toArray, List.getElem_cons_succ, List.getElem_cons_zero, Act.put, List.setIfInBounds_toArray, List.set_cons_zero, List.set_cons_succ]
          refine wpAnyH_take (i := 12) (v := ?_) rfl (by kernel_rfl) (by kernel_rfl) (by kernel_rfl) (fun _ _ _ h => h) (Or.inl ⟨by rfl, ?_⟩) (by assumption) ?_
          rotate_left
          · intro w9 hSw; (try dsimp only at hSw); go_simp; try with_reducible rfl
          try simp only [List.getElem_toArray, List.getElem_cons_succ, List.getElem_cons_zero, Act.put, List.setIfInBounds_toArray, List.set_cons_zero, List.set_cons_succ]
          refine wpAnyH_done (by kernel_rfl) ?_ _
          refine NoPanic.normal ?_
          clear hHeld
          have hfin : v16.ownsRow w.heap.size 22 1 u3 (rows.length + 1) (insAt cs kk (.slice sa s.length sc)) := by
            have h7 := HO3.out
            rw [show 0 + kk + 1 + (rows.length - kk) = rows.length + 1 by omega] at h7
            simpa [insAt, List.append_assoc] using h7
          have HF := Lib.hid hfin
          clear hfin
          go_wp2_with fail
          go_ret
          exact ⟨u3, rfl, HF.out, HBh16.out⟩
        refine AllReadyH.cons rfl (fun K hK => ?_) AllReadyH.nil
        clear hHeld
        go_simp
        have nx_0 : (v11.alloc (.cells #[.slice sa s.length sc] 22)).cell? ⟨v11.heap.size, 0, none⟩ = some (.slice sa s.length sc) := cell_new _ _ _ rfl rfl
        have hb := below_alloc v11 (.cells #[.slice sa s.length sc] 22)
        have lt_nx := size_alloc' v11 (.cells #[.slice sa s.length sc] 22)
        obtain ⟨BN, hBN⟩ : ∃ BN : Nat, BN = v11.heap.size := ⟨_, rfl⟩
        rw [← hBN] at nx_0  ⊢
        have hBNl : BN ≤ v11.heap.size ∧ v11.heap.size ≤ BN := by omega
        clear hBN
        generalize hwn : v11.alloc (.cells #[.slice sa s.length sc] 22) = v12 at *
        clear hwn
        have sz12 : v11.heap.size ≤ v12.heap.size := hb.size
        have HBh12 := Lib.hid (HBh11.out.trans (hb.mono (by have := HBh11.out.size; omega)))
        clear hb
        refine hK.out _ _ ?_ (fun hHeld => ?_)
        · exact trivial
        clear hK K
        try simp only [List.getElem_toArray, List.getElem_cons_succ, List.getElem_cons_zero, Act.put, List.setIfInBounds_toArray, List.set_cons_zero, List.set_cons_succ]
        refine wpAnyH_ready (rs := [0]) (by kernel_rfl) (by simp) ?_
        refine AllReadyH.cons rfl (fun K hK => ?_) AllReadyH.nil
        clear hHeld
        go_simp
        have ho0 : (v12.alloc (.cells #[] 22)).ownsRow w.heap.size 22 1 (.slice (some ⟨v12.heap.size, 0, none⟩) 0 0) 0 [] := World.ownsRow_made (base := w.heap.size) (e := 22) (size := 1) v12 #[] 0 (by have := HBh12.out.size; omega) (by unfold maxLen; omega) rfl
        have hb := below_alloc v12 (.cells #[] 22)
        have lt_v0 := size_alloc' v12 (.cells #[] 22)
        have hne0 : BN ≠ v12.heap.size := by omega
        obtain ⟨B0, hB0⟩ : ∃ B0 : Nat, B0 = v12.heap.size := ⟨_, rfl⟩
        rw [← hB0] at ho0 ⊢
        have hB0l : B0 ≤ v12.heap.size ∧ v12.heap.size ≤ B0 := by omega
        clear hB0
        generalize hwn : v12.alloc (.cells #[] 22) = v13 at *
        clear hwn
        have sz13 : v12.heap.size ≤ v13.heap.size := hb.size
        replace nx_0 := cell_keep hb nx_0
        have HBh13 := Lib.hid (HBh12.out.trans (hb.mono (by have := HBh12.out.size; omega)))
        clear hb
        have HO0 := Lib.hid ho0
        clear ho0
        have HNE0 := Lib.hid (show ∀ g, (Value.slice (some ⟨B0, 0, none⟩) 0 0).ownBlock = some g → g ≠ BN from fun g e => by (have e2 : B0 = g := by simpa [Value.ownBlock] using e); omega)
        refine hK.out _ _ ?_ (fun hHeld => ?_)
        · exact trivial
        clear hK K
        try simp only [List.getElem_toArray, List.getElem_cons_succ, List.getElem_cons_zero, Act.put, List.setIfInBounds_toArray, List.set_cons_zero, List.set_cons_succ]
        refine wpAnyH_ready (rs := [4]) (by kernel_rfl) (by simp) ?_
        refine AllReadyH.cons rfl (fun K hK => ?_) AllReadyH.nil
        clear hHeld
        refine step_append_any rfl _ _ 38 rfl w.heap.size 22 i0 (.slice none 0 0) 1 24 Try.underlying38 hi hz0 hz1 hz2 rfl (by decide) (Value.slice (some ⟨B0, 0, none⟩) 0 0) (0) ([]) (by rfl) HO0.out ⟨gl, 0, none⟩ kk kk (cs.take kk) (by rfl) (by rw [List.length_take]; omega) (fun j u hj => by rw [Go.WideShapes.add_plain, Nat.zero_add]; exact cell_below HBh13.out (HCL.out j u (take_some hj)) hgl) (fun u hu => HONE.out u (List.mem_of_mem_take hu)) (by unfold maxLen; omega) (by omega) (by have := HBh13.out.size; omega) ?_
        intro u1 v14 hown1 hg hat1
        have nx_00 := nx_0
        have hnb : ∀ g, (Value.slice (some ⟨B0, 0, none⟩) 0 0).ownBlock = some g → BN ≠ g := fun g e => Ne.symm (HNE0.out g e)
        have hrow : ∀ g, (Value.slice (some ⟨B0, 0, none⟩) 0 0).ownBlock = some g → w.heap.size ≤ g := fun g e => (HO0.out.lt g e).1
        have sz14 : v13.heap.size ≤ v14.heap.size := hg.size
        replace nx_0 := cell_grow hg nx_0 (fun g e => hnb g e)
        have HBh14 := Lib.hid (HBh13.out.grown hg (by have := HBh13.out.size; omega) (fun g e => hrow g e))
        have HO1 := Lib.hid hown1
        have HNE1 := Lib.hid (show ∀ g, u1.ownBlock = some g → g ≠ BN from fun g e => by (rcases hat1 with e2 | e2); (rw [e2] at e; exact HNE0.out g e); (have h7 : v13.heap.size = g := by (rw [e2] at e; simpa using e)); (have h8 := block_lt_of_cell (a := ⟨BN, 0, none⟩) nx_00); omega)
        clear hown1 hg hat1 hrow hnb
        clear nx_00
        refine hK.out _ _ ?_ (fun hHeld => ?_)
        · exact trivial
        clear hK K
        try simp only [List.getElem_toArray, List.getElem_cons_succ, List.getElem_cons_zero, Act.put, List.setIfInBounds_toArray, List.set_cons_zero, List.set_cons_succ]
        refine wpAnyH_ready (rs := [7]) (by kernel_rfl) (by simp) ?_
        refine AllReadyH.cons rfl (fun K hK => ?_) AllReadyH.nil
        clear hHeld
        refine step_append_any rfl _ _ 38 rfl w.heap.size 22 i0 (.slice none 0 0) 1 24 Try.underlying38 hi hz0 hz1 hz2 rfl (by decide) u1 (0 + kk) ([] ++ (cs.take kk)) (by rfl) HO1.out ⟨BN, 0, none⟩ 1 1 [.slice sa s.length sc] (by rfl) (by rfl) (fun j u hj => by (have h7 : j = 0 := by (have := (List.getElem?_eq_some_iff.1 hj).1; simp at this; exact this)); subst h7; simp at hj; subst hj; simpa [Addr.add] using nx_0) (by simp [Value.oneCell']) (by unfold maxLen; omega) (by omega) (by have := HBh14.out.size; omega) ?_
        intro u2 v15 hown2 hg hat2
        have nx_00 := nx_0
        have hnb : ∀ g, u1.ownBlock = some g → BN ≠ g := fun g e => Ne.symm (HNE1.out g e)
        have hrow : ∀ g, u1.ownBlock = some g → w.heap.size ≤ g := fun g e => (HO1.out.lt g e).1
        have sz15 : v14.heap.size ≤ v15.heap.size := hg.size
        replace nx_0 := cell_grow hg nx_0 (fun g e => hnb g e)
        have HBh15 := Lib.hid (HBh14.out.grown hg (by have := HBh14.out.size; omega) (fun g e => hrow g e))
        have HO2 := Lib.hid hown2
        have HNE2 := Lib.hid (show ∀ g, u2.ownBlock = some g → g ≠ BN from fun g e => by (rcases hat2 with e2 | e2); (rw [e2] at e; exact HNE1.out g e); (have h7 : v14.heap.size = g := by (rw [e2] at e; simpa using e)); (have h8 := block_lt_of_cell (a := ⟨BN, 0, none⟩) nx_00); omega)
        clear hown2 hg hat2 hrow hnb
        clear nx_00
        refine hK.out _ _ ?_ (fun hHeld => ?_)
        · exact trivial
        clear hK K
        try simp only [List.getElem_toArray, List.getElem_cons_succ, List.getElem_cons_zero, Act.put, List.setIfInBounds_toArray, List.set_cons_zero, List.set_cons_succ]
        refine wpAnyH_ready (rs := [11]) (by kernel_rfl) (by simp) ?_
        refine AllReadyH.cons rfl (fun K hK => ?_) AllReadyH.nil
        clear hHeld
        refine step_append_any rfl _ _ 38 rfl w.heap.size 22 i0 (.slice none 0 0) 1 24 Try.underlying38 hi hz0 hz1 hz2 rfl (by decide) u2 (0 + kk + 1) ([] ++ (cs.take kk) ++ [.slice sa s.length sc]) (by rfl) HO2.out ⟨gl, 0, none⟩ (rows.length - kk) 0 (cs.drop kk) (by rfl) (by rw [List.length_drop]; omega) (fun j u hj => by have h7 := (List.getElem?_eq_some_iff.1 hj).1; rw [List.length_drop] at h7; have := HKN.out; omega) (fun u hu => HONE.out u (List.mem_of_mem_drop hu)) (by unfold maxLen; omega) (by omega) (by have := HBh15.out.size; omega) ?_
        intro u3 v16 hown3 hg hat3
        have nx_00 := nx_0
        have hnb : ∀ g, u2.ownBlock = some g → BN ≠ g := fun g e => Ne.symm (HNE2.out g e)
        have hrow : ∀ g, u2.ownBlock = some g → w.heap.size ≤ g := fun g e => (HO2.out.lt g e).1
        have sz16 : v15.heap.size ≤ v16.heap.size := hg.size
        replace nx_0 := cell_grow hg nx_0 (fun g e => hnb g e)
        have HBh16 := Lib.hid (HBh15.out.grown hg (by have := HBh15.out.size; omega) (fun g e => hrow g e))
        have HO3 := Lib.hid hown3
        have HNE3 := Lib.hid (show ∀ g, u3.ownBlock = some g → g ≠ BN from fun g e => by (rcases hat3 with e2 | e2); (rw [e2] at e; exact HNE2.out g e); (have h7 : v15.heap.size = g := by (rw [e2] at e; simpa using e)); (have h8 := block_lt_of_cell (a := ⟨BN, 0, none⟩) nx_00); omega)
        clear hown3 hg hat3 hrow hnb
        clear nx_00
        refine hK.out _ _ ?_ (fun hHeld => ?_)
        · exact trivial
        clear hK K
        try simp only [List.getElem_toArray, List.getElem_cons_succ, List.getElem_cons_zero, Act.put, List.setIfInBounds_toArray, List.set_cons_zero, List.set_cons_succ]
        refine wpAnyH_take (i := 12) (v := ?_) rfl (by kernel_rfl) (by kernel_rfl) (by kernel_rfl) (fun _ _ _ h => h) (Or.inl ⟨by rfl, ?_⟩) (by assumption) ?_
        rotate_left
        · intro w9 hSw; (try dsimp only at hSw); go_simp; try with_reducible rfl
        try simp only [List.getElem_toArray, List.getElem_cons_succ, List.getElem_cons_zero, Act.put, List.setIfInBounds_toArray, List.set_cons_zero, List.set_cons_succ]
        refine wpAnyH_done (by kernel_rfl) ?_ _
        refine NoPanic.normal ?_
        clear hHeld
        have hfin : v16.ownsRow w.heap.size 22 1 u3 (rows.length + 1) (insAt cs kk (.slice sa s.length sc)) := by
          have h7 := HO3.out
          rw [show 0 + kk + 1 + (rows.length - kk) = rows.length + 1 by omega] at h7
          simpa [insAt, List.append_assoc] using h7
        have HF := Lib.hid hfin
        clear hfin
        go_wp2_with fail
        go_ret
        exact ⟨u3, rfl, HF.out, HBh16.out⟩
      · have hk1 : kk ≤ cp := by omega
        go_wp2_with fail
        refine wp_region_noPanic ?_
        refine wp_region_held_drew (S := fun w' => True) (by kernel_rfl) ?_ (fun hHeld => ?_)
        · exact trivial
        have hb : Below wm.heap.size wm wm.drew := (Below.refl _ _).drew
        generalize hwn : wm.drew = v11 at *
        clear hwn
        have sz11 : wm.heap.size ≤ v11.heap.size := hb.size
        have HBh11 := Lib.hid (HBM.out.trans (hb.mono (by have := HBM.out.size; omega)))
        clear hb
        refine wpAnyH_take (i := 1) (v := ?_) rfl (by kernel_rfl) (by kernel_rfl) (by kernel_rfl) (fun _ _ _ h => h) (Or.inl ⟨by rfl, ?_⟩) (by assumption) ?_
        rotate_left
        · intro w9 hSw; (try dsimp only at hSw); go_simp; try with_reducible rfl
        try simp only [List.getElem_toArray, List.getElem_cons_succ, List.getElem_cons_zero, Act.put, List.setIfInBounds_toArray, List.set_cons_zero, List.set_cons_succ]
        refine wpAnyH_take (i := 2) (v := ?_) rfl (by kernel_rfl) (by kernel_rfl) (by kernel_rfl) (fun _ _ _ h => h) (Or.inl ⟨by rfl, ?_⟩) (by assumption) ?_
        rotate_left
        · intro w9 hSw; (try dsimp only at hSw); go_simp; try with_reducible rfl
        try simp only [List.getElem_toArray, List.getElem_cons_succ, List.getElem_cons_zero, Act.put, List.setIfInBounds_toArray, List.set_cons_zero, List.set_cons_succ]
        refine wpAnyH_take (i := 3) (v := ?_) rfl (by kernel_rfl) (by kernel_rfl) (by kernel_rfl) (fun _ _ _ h => h) (Or.inl ⟨by rfl, ?_⟩) (by assumption) ?_
        rotate_left
        · intro w9 hSw; (try dsimp only at hSw); go_simp; try with_reducible rfl
        try simp only [List.getElem_toArray, List.getElem_cons_succ, List.getElem_cons_zero, Act.put, List.setIfInBounds_toArray, List.set_cons_zero, List.set_cons_succ]
        refine wpAnyH_take (i := 5) (v := ?_) rfl (by kernel_rfl) (by kernel_rfl) (by kernel_rfl) (fun _ _ _ h => h) (Or.inl ⟨by rfl, ?_⟩) (by assumption) ?_
        rotate_left
        · intro w9 hSw; (try dsimp only at hSw); go_simp; try with_reducible rfl
        try simp only [List.getElem_toArray, List.getElem_cons_succ, List.getElem_cons_zero, Act.put, List.setIfInBounds_toArray, List.set_cons_zero, List.set_cons_succ]
        refine wpAnyH_take (i := 8) (v := ?_) rfl (by kernel_rfl) (by kernel_rfl) (by kernel_rfl) (fun _ _ _ h => h) (Or.inl ⟨by rfl, ?_⟩) (by assumption) ?_
        rotate_left
        · intro w9 hSw; (try dsimp only at hSw); go_simp; try with_reducible rfl
        try simp only [List.getElem_toArray, List.getElem_cons_succ, List.getElem_cons_zero, Act.put, List.setIfInBounds_toArray, List.set_cons_zero, List.set_cons_succ]
        refine wpAnyH_take (i := 9) (v := ?_) rfl (by kernel_rfl) (by kernel_rfl) (by kernel_rfl) (fun _ _ _ h => h) (Or.inl ⟨by rfl, ?_⟩) (by assumption) ?_
        rotate_left
        · intro w9 hSw; (try dsimp only at hSw); go_simp; try with_reducible rfl
        try simp only [List.getElem_toArray, List.getElem_cons_succ, List.getElem_cons_zero, Act.put, List.setIfInBounds_toArray, List.set_cons_zero, List.set_cons_succ]
        refine wpAnyH_take (i := 10) (v := ?_) rfl (by kernel_rfl) (by kernel_rfl) (by kernel_rfl) (fun _ _ _ h => h) (Or.inl ⟨by rfl, ?_⟩) (by assumption) ?_
        rotate_left
        · intro w9 hSw; (try dsimp only at hSw); go_simp; try with_reducible rfl
        try simp only [List.getElem_toArray, List.getElem_cons_succ, List.getElem_cons_zero, Act.put, List.setIfInBounds_toArray, List.set_cons_zero, List.set_cons_succ]
        refine wpAnyH_ready (rs := [0, 6]) (by kernel_rfl) (by simp) ?_
        refine AllReadyH.cons rfl (fun K hK => ?_) ?_
        · skip
          clear hHeld
          go_simp
          have ho0 : (v11.alloc (.cells #[] 22)).ownsRow w.heap.size 22 1 (.slice (some ⟨v11.heap.size, 0, none⟩) 0 0) 0 [] := World.ownsRow_made (base := w.heap.size) (e := 22) (size := 1) v11 #[] 0 (by have := HBh11.out.size; omega) (by unfold maxLen; omega) rfl
          have hb := below_alloc v11 (.cells #[] 22)
          have lt_v0 := size_alloc' v11 (.cells #[] 22)
          obtain ⟨B0, hB0⟩ : ∃ B0 : Nat, B0 = v11.heap.size := ⟨_, rfl⟩
          rw [← hB0] at ho0 ⊢
          have hB0l : B0 ≤ v11.heap.size ∧ v11.heap.size ≤ B0 := by omega
          clear hB0
          generalize hwn : v11.alloc (.cells #[] 22) = v12 at *
          clear hwn
          have sz12 : v11.heap.size ≤ v12.heap.size := hb.size
          have HBh12 := Lib.hid (HBh11.out.trans (hb.mono (by have := HBh11.out.size; omega)))
          clear hb
          have HO0 := Lib.hid ho0
          clear ho0
          refine hK.out _ _ ?_ (fun hHeld => ?_)
          · exact trivial
          clear hK K
          try simp only [List.getElem_toArray, List.getElem_cons_succ, List.getElem_cons_zero, Act.put, List.setIfInBounds_toArray, List.set_cons_zero, List.set_cons_succ]
          refine wpAnyH_ready (rs := [4, 6]) (by kernel_rfl) (by simp) ?_
          refine AllReadyH.cons rfl (fun K hK => ?_) ?_
          · skip
            clear hHeld
            refine step_append_any rfl _ _ 38 rfl w.heap.size 22 i0 (.slice none 0 0) 1 24 Try.underlying38 hi hz0 hz1 hz2 rfl (by decide) (Value.slice (some ⟨B0, 0, none⟩) 0 0) (0) ([]) (by rfl) HO0.out ⟨gl, 0, none⟩ kk cp (cs.take kk) (by rfl) (by rw [List.length_take]; omega) (fun j u hj => by rw [Go.WideShapes.add_plain, Nat.zero_add]; exact cell_below HBh12.out (HCL.out j u (take_some hj)) hgl) (fun u hu => HONE.out u (List.mem_of_mem_take hu)) (by unfold maxLen; omega) (by omega) (by have := HBh12.out.size; omega) ?_
            intro u1 v13 hown1 hg hat1
            have hrow : ∀ g, (Value.slice (some ⟨B0, 0, none⟩) 0 0).ownBlock = some g → w.heap.size ≤ g := fun g e => (HO0.out.lt g e).1
            have sz13 : v12.heap.size ≤ v13.heap.size := hg.size
            have HBh13 := Lib.hid (HBh12.out.grown hg (by have := HBh12.out.size; omega) (fun g e => hrow g e))
            have HO1 := Lib.hid hown1
            clear hown1 hg hat1 hrow
            refine hK.out _ _ ?_ (fun hHeld => ?_)
            · exact trivial
            clear hK K
            try simp only [List.getElem_toArray, List.getElem_cons_succ, List.getElem_cons_zero, Act.put, List.setIfInBounds_toArray, List.set_cons_zero, List.set_cons_succ]
            refine wpAnyH_ready (rs := [6]) (by kernel_rfl) (by simp) ?_
            refine AllReadyH.cons rfl (fun K hK => ?_) AllReadyH.nil
            clear hHeld
            go_simp
            have nx_0 : (v13.alloc (.cells #[.slice sa s.length sc] 22)).cell? ⟨v13.heap.size, 0, none⟩ = some (.slice sa s.length sc) := cell_new _ _ _ rfl rfl
            have HNE1 := Lib.hid (show ∀ g, u1.ownBlock = some g → g ≠ v13.heap.size from fun g e => by have := (HO1.out.lt g e).2; omega)
            replace HO1 := Lib.hid (HO1.out.alloc (.cells #[.slice sa s.length sc] 22))
            have hb := below_alloc v13 (.cells #[.slice sa s.length sc] 22)
            have lt_nx := size_alloc' v13 (.cells #[.slice sa s.length sc] 22)
            obtain ⟨BN, hBN⟩ : ∃ BN : Nat, BN = v13.heap.size := ⟨_, rfl⟩
            rw [← hBN] at nx_0 HNE1 ⊢
            have hBNl : BN ≤ v13.heap.size ∧ v13.heap.size ≤ BN := by omega
            clear hBN
            generalize hwn : v13.alloc (.cells #[.slice sa s.length sc] 22) = v14 at *
            clear hwn
            have sz14 : v13.heap.size ≤ v14.heap.size := hb.size
            have HBh14 := Lib.hid (HBh13.out.trans (hb.mono (by have := HBh13.out.size; omega)))
            clear hb
            refine hK.out _ _ ?_ (fun hHeld => ?_)
            · exact trivial
            clear hK K
            try simp only [List.getElem_toArray, List.getElem_cons_succ, List.getElem_cons_zero, Act.put, List.setIfInBounds_toArray, List.set_cons_zero, List.set_cons_succ]
            refine wpAnyH_ready (rs := [7]) (by kernel_rfl) (by simp) ?_
            refine AllReadyH.cons rfl (fun K hK => ?_) AllReadyH.nil
            clear hHeld
            refine step_append_any rfl _ _ 38 rfl w.heap.size 22 i0 (.slice none 0 0) 1 24 Try.underlying38 hi hz0 hz1 hz2 rfl (by decide) u1 (0 + kk) ([] ++ (cs.take kk)) (by rfl) HO1.out ⟨BN, 0, none⟩ 1 1 [.slice sa s.length sc] (by rfl) (by rfl) (fun j u hj => by (have h7 : j = 0 := by (have := (List.getElem?_eq_some_iff.1 hj).1; simp at this; exact this)); subst h7; simp at hj; subst hj; simpa [Addr.add] using nx_0) (by simp [Value.oneCell']) (by unfold maxLen; omega) (by omega) (by have := HBh14.out.size; omega) ?_
            intro u2 v15 hown2 hg hat2
            have nx_00 := nx_0
            have hnb : ∀ g, u1.ownBlock = some g → BN ≠ g := fun g e => Ne.symm (HNE1.out g e)
            have hrow : ∀ g, u1.ownBlock = some g → w.heap.size ≤ g := fun g e => (HO1.out.lt g e).1
            have sz15 : v14.heap.size ≤ v15.heap.size := hg.size
            replace nx_0 := cell_grow hg nx_0 (fun g e => hnb g e)
            have HBh15 := Lib.hid (HBh14.out.grown hg (by have := HBh14.out.size; omega) (fun g e => hrow g e))
            have HO2 := Lib.hid hown2
            have HNE2 := Lib.hid (show ∀ g, u2.ownBlock = some g → g ≠ BN from fun g e => by (rcases hat2 with e2 | e2); (rw [e2] at e; exact HNE1.out g e); (have h7 : v14.heap.size = g := by (rw [e2] at e; simpa using e)); (have h8 := block_lt_of_cell (a := ⟨BN, 0, none⟩) nx_00); omega)
            clear hown2 hg hat2 hrow hnb
            clear nx_00
            refine hK.out _ _ ?_ (fun hHeld => ?_)
            · exact trivial
            clear hK K
            try simp only [List.getElem_toArray, List.getElem_cons_succ, List.getElem_cons_zero, Act.put, List.setIfInBounds_toArray, List.set_cons_zero, List.set_cons_succ]
            refine wpAnyH_ready (rs := [11]) (by kernel_rfl) (by simp) ?_
            refine AllReadyH.cons rfl (fun K hK => ?_) AllReadyH.nil
            clear hHeld
            refine step_append_any rfl _ _ 38 rfl w.heap.size 22 i0 (.slice none 0 0) 1 24 Try.underlying38 hi hz0 hz1 hz2 rfl (by decide) u2 (0 + kk + 1) ([] ++ (cs.take kk) ++ [.slice sa s.length sc]) (by rfl) HO2.out ⟨gl, kk, none⟩ (rows.length - kk) (cp - kk) (cs.drop kk) (by rfl) (by rw [List.length_drop]; omega) (fun j u hj => by rw [Go.WideShapes.add_plain]; exact cell_below HBh15.out (HCL.out (kk + j) u (by rw [List.getElem?_drop] at hj; exact hj)) hgl) (fun u hu => HONE.out u (List.mem_of_mem_drop hu)) (by unfold maxLen; omega) (by omega) (by have := HBh15.out.size; omega) ?_
            intro u3 v16 hown3 hg hat3
            have nx_00 := nx_0
            have hnb : ∀ g, u2.ownBlock = some g → BN ≠ g := fun g e => Ne.symm (HNE2.out g e)
            have hrow : ∀ g, u2.ownBlock = some g → w.heap.size ≤ g := fun g e => (HO2.out.lt g e).1
            have sz16 : v15.heap.size ≤ v16.heap.size := hg.size
            replace nx_0 := cell_grow hg nx_0 (fun g e => hnb g e)
            have HBh16 := Lib.hid (HBh15.out.grown hg (by have := HBh15.out.size; omega) (fun g e => hrow g e))
            have HO3 := Lib.hid hown3
            have HNE3 := Lib.hid (show ∀ g, u3.ownBlock = some g → g ≠ BN from fun g e => by (rcases hat3 with e2 | e2); (rw [e2] at e; exact HNE2.out g e); (have h7 : v15.heap.size = g := by (rw [e2] at e; simpa using e)); (have h8 := block_lt_of_cell (a := ⟨BN, 0, none⟩) nx_00); omega)
            clear hown3 hg hat3 hrow hnb
            clear nx_00
            refine hK.out _ _ ?_ (fun hHeld => ?_)
            · exact trivial
            clear hK K
            try simp only [List.getElem_toArray, List.getElem_cons_succ, List.getElem_cons_zero, Act.put, List.setIfInBounds_toArray, List.set_cons_zero, List.set_cons_succ]
            refine wpAnyH_take (i := 12) (v := ?_) rfl (by kernel_rfl) (by kernel_rfl) (by kernel_rfl) (fun _ _ _ h => h) (Or.inl ⟨by rfl, ?_⟩) (by assumption) ?_
            rotate_left
            · intro w9 hSw; (try dsimp only at hSw); go_simp; try with_reducible rfl
            try simp only [List.getElem_toArray, List.getElem_cons_succ, List.getElem_cons_zero, Act.put, List.setIfInBounds_toArray, List.set_cons_zero, List.set_cons_succ]
            refine wpAnyH_done (by kernel_rfl) ?_ _
            refine NoPanic.normal ?_
            clear hHeld
            have hfin : v16.ownsRow w.heap.size 22 1 u3 (rows.length + 1) (insAt cs kk (.slice sa s.length sc)) := by
              have h7 := HO3.out
              rw [show 0 + kk + 1 + (rows.length - kk) = rows.length + 1 by omega] at h7
              simpa [insAt, List.append_assoc] using h7
            have HF := Lib.hid hfin
            clear hfin
            go_wp2_with fail
            go_ret
            exact ⟨u3, rfl, HF.out, HBh16.out⟩
          refine AllReadyH.cons rfl (fun K hK => ?_) AllReadyH.nil
          clear hHeld
          go_simp
          have nx_0 : (v12.alloc (.cells #[.slice sa s.length sc] 22)).cell? ⟨v12.heap.size, 0, none⟩ = some (.slice sa s.length sc) := cell_new _ _ _ rfl rfl
          have HNE0 := Lib.hid (show ∀ g, (Value.slice (some ⟨B0, 0, none⟩) 0 0).ownBlock = some g → g ≠ v12.heap.size from fun g e => by have := (HO0.out.lt g e).2; omega)
          replace HO0 := Lib.hid (HO0.out.alloc (.cells #[.slice sa s.length sc] 22))
          have hb := below_alloc v12 (.cells #[.slice sa s.length sc] 22)
          have lt_nx := size_alloc' v12 (.cells #[.slice sa s.length sc] 22)
          obtain ⟨BN, hBN⟩ : ∃ BN : Nat, BN = v12.heap.size := ⟨_, rfl⟩
          rw [← hBN] at nx_0 HNE0 ⊢
          have hBNl : BN ≤ v12.heap.size ∧ v12.heap.size ≤ BN := by omega
          clear hBN
          generalize hwn : v12.alloc (.cells #[.slice sa s.length sc] 22) = v13 at *
          clear hwn
          have sz13 : v12.heap.size ≤ v13.heap.size := hb.size
          have HBh13 := Lib.hid (HBh12.out.trans (hb.mono (by have := HBh12.out.size; omega)))
          clear hb
          refine hK.out _ _ ?_ (fun hHeld => ?_)
          · exact trivial
          clear hK K
          try simp only [List.getElem_toArray, List.getElem_cons_succ, List.getElem_cons_zero, Act.put, List.setIfInBounds_toArray, List.set_cons_zero, List.set_cons_succ]
          refine wpAnyH_ready (rs := [4]) (by kernel_rfl) (by simp) ?_
          refine AllReadyH.cons rfl (fun K hK => ?_) AllReadyH.nil
          clear hHeld
          refine step_append_any rfl _ _ 38 rfl w.heap.size 22 i0 (.slice none 0 0) 1 24 Try.underlying38 hi hz0 hz1 hz2 rfl (by decide) (Value.slice (some ⟨B0, 0, none⟩) 0 0) (0) ([]) (by rfl) HO0.out ⟨gl, 0, none⟩ kk cp (cs.take kk) (by rfl) (by rw [List.length_take]; omega) (fun j u hj => by rw [Go.WideShapes.add_plain, Nat.zero_add]; exact cell_below HBh13.out (HCL.out j u (take_some hj)) hgl) (fun u hu => HONE.out u (List.mem_of_mem_take hu)) (by unfold maxLen; omega) (by omega) (by have := HBh13.out.size; omega) ?_
          intro u1 v14 hown1 hg hat1
          have nx_00 := nx_0
          have hnb : ∀ g, (Value.slice (some ⟨B0, 0, none⟩) 0 0).ownBlock = some g → BN ≠ g := fun g e => Ne.symm (HNE0.out g e)
          have hrow : ∀ g, (Value.slice (some ⟨B0, 0, none⟩) 0 0).ownBlock = some g → w.heap.size ≤ g := fun g e => (HO0.out.lt g e).1
          have sz14 : v13.heap.size ≤ v14.heap.size := hg.size
          replace nx_0 := cell_grow hg nx_0 (fun g e => hnb g e)
          have HBh14 := Lib.hid (HBh13.out.grown hg (by have := HBh13.out.size; omega) (fun g e => hrow g e))
          have HO1 := Lib.hid hown1
          have HNE1 := Lib.hid (show ∀ g, u1.ownBlock = some g → g ≠ BN from fun g e => by (rcases hat1 with e2 | e2); (rw [e2] at e; exact HNE0.out g e); (have h7 : v13.heap.size = g := by (rw [e2] at e; simpa using e)); (have h8 := block_lt_of_cell (a := ⟨BN, 0, none⟩) nx_00); omega)
          clear hown1 hg hat1 hrow hnb
          clear nx_00
          refine hK.out _ _ ?_ (fun hHeld => ?_)
          · exact trivial
          clear hK K
          try simp only [List.getElem_toArray, List.getElem_cons_succ, List.getElem_cons_zero, Act.put, List.setIfInBounds_toArray, List.set_cons_zero, List.set_cons_succ]
          refine wpAnyH_ready (rs := [7]) (by kernel_rfl) (by simp) ?_
          refine AllReadyH.cons rfl (fun K hK => ?_) AllReadyH.nil
          clear hHeld
          refine step_append_any rfl _ _ 38 rfl w.heap.size 22 i0 (.slice none 0 0) 1 24 Try.underlying38 hi hz0 hz1 hz2 rfl (by decide) u1 (0 + kk) ([] ++ (cs.take kk)) (by rfl) HO1.out ⟨BN, 0, none⟩ 1 1 [.slice sa s.length sc] (by rfl) (by rfl) (fun j u hj => by (have h7 : j = 0 := by (have := (List.getElem?_eq_some_iff.1 hj).1; simp at this; exact this)); subst h7; simp at hj; subst hj; simpa [Addr.add] using nx_0) (by simp [Value.oneCell']) (by unfold maxLen; omega) (by omega) (by have := HBh14.out.size; omega) ?_
          intro u2 v15 hown2 hg hat2
          have nx_00 := nx_0
          have hnb : ∀ g, u1.ownBlock = some g → BN ≠ g := fun g e => Ne.symm (HNE1.out g e)
          have hrow : ∀ g, u1.ownBlock = some g → w.heap.size ≤ g := fun g e => (HO1.out.lt g e).1
          have sz15 : v14.heap.size ≤ v15.heap.size := hg.size
          replace nx_0 := cell_grow hg nx_0 (fun g e => hnb g e)
          have HBh15 := Lib.hid (HBh14.out.grown hg (by have := HBh14.out.size; omega) (fun g e => hrow g e))
          have HO2 := Lib.hid hown2
          have HNE2 := Lib.hid (show ∀ g, u2.ownBlock = some g → g ≠ BN from fun g e => by (rcases hat2 with e2 | e2); (rw [e2] at e; exact HNE1.out g e); (have h7 : v14.heap.size = g := by (rw [e2] at e; simpa using e)); (have h8 := block_lt_of_cell (a := ⟨BN, 0, none⟩) nx_00); omega)
          clear hown2 hg hat2 hrow hnb
          clear nx_00
          refine hK.out _ _ ?_ (fun hHeld => ?_)
          · exact trivial
          clear hK K
          try simp only [List.getElem_toArray, List.getElem_cons_succ, List.getElem_cons_zero, Act.put, List.setIfInBounds_toArray, List.set_cons_zero, List.set_cons_succ]
          refine wpAnyH_ready (rs := [11]) (by kernel_rfl) (by simp) ?_
          refine AllReadyH.cons rfl (fun K hK => ?_) AllReadyH.nil
          clear hHeld
          refine step_append_any rfl _ _ 38 rfl w.heap.size 22 i0 (.slice none 0 0) 1 24 Try.underlying38 hi hz0 hz1 hz2 rfl (by decide) u2 (0 + kk + 1) ([] ++ (cs.take kk) ++ [.slice sa s.length sc]) (by rfl) HO2.out ⟨gl, kk, none⟩ (rows.length - kk) (cp - kk) (cs.drop kk) (by rfl) (by rw [List.length_drop]; omega) (fun j u hj => by rw [Go.WideShapes.add_plain]; exact cell_below HBh15.out (HCL.out (kk + j) u (by rw [List.getElem?_drop] at hj; exact hj)) hgl) (fun u hu => HONE.out u (List.mem_of_mem_drop hu)) (by unfold maxLen; omega) (by omega) (by have := HBh15.out.size; omega) ?_
          intro u3 v16 hown3 hg hat3
          have nx_00 := nx_0
          have hnb : ∀ g, u2.ownBlock = some g → BN ≠ g := fun g e => Ne.symm (HNE2.out g e)
          have hrow : ∀ g, u2.ownBlock = some g → w.heap.size ≤ g := fun g e => (HO2.out.lt g e).1
          have sz16 : v15.heap.size ≤ v16.heap.size := hg.size
          replace nx_0 := cell_grow hg nx_0 (fun g e => hnb g e)
          have HBh16 := Lib.hid (HBh15.out.grown hg (by have := HBh15.out.size; omega) (fun g e => hrow g e))
          have HO3 := Lib.hid hown3
          have HNE3 := Lib.hid (show ∀ g, u3.ownBlock = some g → g ≠ BN from fun g e => by (rcases hat3 with e2 | e2); (rw [e2] at e; exact HNE2.out g e); (have h7 : v15.heap.size = g := by (rw [e2] at e; simpa using e)); (have h8 := block_lt_of_cell (a := ⟨BN, 0, none⟩) nx_00); omega)
          clear hown3 hg hat3 hrow hnb
          clear nx_00
          refine hK.out _ _ ?_ (fun hHeld => ?_)
          · exact trivial
          clear hK K
          try simp only [List.getElem_toArray, List.getElem_cons_succ, List.getElem_cons_zero, Act.put, List.setIfInBounds_toArray, List.set_cons_zero, List.set_cons_succ]
          refine wpAnyH_take (i := 12) (v := ?_) rfl (by kernel_rfl) (by kernel_rfl) (by kernel_rfl) (fun _ _ _ h => h) (Or.inl ⟨by rfl, ?_⟩) (by assumption) ?_
          rotate_left
          · intro w9 hSw; (try dsimp only at hSw); go_simp; try with_reducible rfl
          try simp only [List.getElem_toArray, List.getElem_cons_succ, List.getElem_cons_zero, Act.put, List.setIfInBounds_toArray, List.set_cons_zero, List.set_cons_succ]
          refine wpAnyH_done (by kernel_rfl) ?_ _
          refine NoPanic.normal ?_
          clear hHeld
          have hfin : v16.ownsRow w.heap.size 22 1 u3 (rows.length + 1) (insAt cs kk (.slice sa s.length sc)) := by
            have h7 := HO3.out
            rw [show 0 + kk + 1 + (rows.length - kk) = rows.length + 1 by omega] at h7
            simpa [insAt, List.append_assoc] using h7
          have HF := Lib.hid hfin
          clear hfin
          go_wp2_with fail
          go_ret
          exact ⟨u3, rfl, HF.out, HBh16.out⟩
        refine AllReadyH.cons rfl (fun K hK => ?_) AllReadyH.nil
        clear hHeld
        go_simp
        have nx_0 : (v11.alloc (.cells #[.slice sa s.length sc] 22)).cell? ⟨v11.heap.size, 0, none⟩ = some (.slice sa s.length sc) := cell_new _ _ _ rfl rfl
        have hb := below_alloc v11 (.cells #[.slice sa s.length sc] 22)
        have lt_nx := size_alloc' v11 (.cells #[.slice sa s.length sc] 22)
        obtain ⟨BN, hBN⟩ : ∃ BN : Nat, BN = v11.heap.size := ⟨_, rfl⟩
        rw [← hBN] at nx_0  ⊢
        have hBNl : BN ≤ v11.heap.size ∧ v11.heap.size ≤ BN := by omega
        clear hBN
        generalize hwn : v11.alloc (.cells #[.slice sa s.length sc] 22) = v12 at *
        clear hwn
        have sz12 : v11.heap.size ≤ v12.heap.size := hb.size
        have HBh12 := Lib.hid (HBh11.out.trans (hb.mono (by have := HBh11.out.size; omega)))
        clear hb
        refine hK.out _ _ ?_ (fun hHeld => ?_)
        · exact trivial
        clear hK K
        try simp only [List.getElem_toArray, List.getElem_cons_succ, List.getElem_cons_zero, Act.put, List.setIfInBounds_toArray, List.set_cons_zero, List.set_cons_succ]
        refine wpAnyH_ready (rs := [0]) (by kernel_rfl) (by simp) ?_
        refine AllReadyH.cons rfl (fun K hK => ?_) AllReadyH.nil
        clear hHeld
        go_simp
        have ho0 : (v12.alloc (.cells #[] 22)).ownsRow w.heap.size 22 1 (.slice (some ⟨v12.heap.size, 0, none⟩) 0 0) 0 [] := World.ownsRow_made (base := w.heap.size) (e := 22) (size := 1) v12 #[] 0 (by have := HBh12.out.size; omega) (by unfold maxLen; omega) rfl
        have hb := below_alloc v12 (.cells #[] 22)
        have lt_v0 := size_alloc' v12 (.cells #[] 22)
        have hne0 : BN ≠ v12.heap.size := by omega
        obtain ⟨B0, hB0⟩ : ∃ B0 : Nat, B0 = v12.heap.size := ⟨_, rfl⟩
        rw [← hB0] at ho0 ⊢
        have hB0l : B0 ≤ v12.heap.size ∧ v12.heap.size ≤ B0 := by omega
        clear hB0
        generalize hwn : v12.alloc (.cells #[] 22) = v13 at *
        clear hwn
        have sz13 : v12.heap.size ≤ v13.heap.size := hb.size
        replace nx_0 := cell_keep hb nx_0
        have HBh13 := Lib.hid (HBh12.out.trans (hb.mono (by have := HBh12.out.size; omega)))
        clear hb
        have HO0 := Lib.hid ho0
        clear ho0
        have HNE0 := Lib.hid (show ∀ g, (Value.slice (some ⟨B0, 0, none⟩) 0 0).ownBlock = some g → g ≠ BN from fun g e => by (have e2 : B0 = g := by simpa [Value.ownBlock] using e); omega)
        refine hK.out _ _ ?_ (fun hHeld => ?_)
        · exact trivial
        clear hK K
        try simp only [List.getElem_toArray, List.getElem_cons_succ, List.getElem_cons_zero, Act.put, List.setIfInBounds_toArray, List.set_cons_zero, List.set_cons_succ]
        refine wpAnyH_ready (rs := [4]) (by kernel_rfl) (by simp) ?_
        refine AllReadyH.cons rfl (fun K hK => ?_) AllReadyH.nil
        clear hHeld
        refine step_append_any rfl _ _ 38 rfl w.heap.size 22 i0 (.slice none 0 0) 1 24 Try.underlying38 hi hz0 hz1 hz2 rfl (by decide) (Value.slice (some ⟨B0, 0, none⟩) 0 0) (0) ([]) (by rfl) HO0.out ⟨gl, 0, none⟩ kk cp (cs.take kk) (by rfl) (by rw [List.length_take]; omega) (fun j u hj => by rw [Go.WideShapes.add_plain, Nat.zero_add]; exact cell_below HBh13.out (HCL.out j u (take_some hj)) hgl) (fun u hu => HONE.out u (List.mem_of_mem_take hu)) (by unfold maxLen; omega) (by omega) (by have := HBh13.out.size; omega) ?_
        intro u1 v14 hown1 hg hat1
        have nx_00 := nx_0
        have hnb : ∀ g, (Value.slice (some ⟨B0, 0, none⟩) 0 0).ownBlock = some g → BN ≠ g := fun g e => Ne.symm (HNE0.out g e)
        have hrow : ∀ g, (Value.slice (some ⟨B0, 0, none⟩) 0 0).ownBlock = some g → w.heap.size ≤ g := fun g e => (HO0.out.lt g e).1
        have sz14 : v13.heap.size ≤ v14.heap.size := hg.size
        replace nx_0 := cell_grow hg nx_0 (fun g e => hnb g e)
        have HBh14 := Lib.hid (HBh13.out.grown hg (by have := HBh13.out.size; omega) (fun g e => hrow g e))
        have HO1 := Lib.hid hown1
        have HNE1 := Lib.hid (show ∀ g, u1.ownBlock = some g → g ≠ BN from fun g e => by (rcases hat1 with e2 | e2); (rw [e2] at e; exact HNE0.out g e); (have h7 : v13.heap.size = g := by (rw [e2] at e; simpa using e)); (have h8 := block_lt_of_cell (a := ⟨BN, 0, none⟩) nx_00); omega)
        clear hown1 hg hat1 hrow hnb
        clear nx_00
        refine hK.out _ _ ?_ (fun hHeld => ?_)
        · exact trivial
        clear hK K
        try simp only [List.getElem_toArray, List.getElem_cons_succ, List.getElem_cons_zero, Act.put, List.setIfInBounds_toArray, List.set_cons_zero, List.set_cons_succ]
        refine wpAnyH_ready (rs := [7]) (by kernel_rfl) (by simp) ?_
        refine AllReadyH.cons rfl (fun K hK => ?_) AllReadyH.nil
        clear hHeld
        refine step_append_any rfl _ _ 38 rfl w.heap.size 22 i0 (.slice none 0 0) 1 24 Try.underlying38 hi hz0 hz1 hz2 rfl (by decide) u1 (0 + kk) ([] ++ (cs.take kk)) (by rfl) HO1.out ⟨BN, 0, none⟩ 1 1 [.slice sa s.length sc] (by rfl) (by rfl) (fun j u hj => by (have h7 : j = 0 := by (have := (List.getElem?_eq_some_iff.1 hj).1; simp at this; exact this)); subst h7; simp at hj; subst hj; simpa [Addr.add] using nx_0) (by simp [Value.oneCell']) (by unfold maxLen; omega) (by omega) (by have := HBh14.out.size; omega) ?_
        intro u2 v15 hown2 hg hat2
        have nx_00 := nx_0
        have hnb : ∀ g, u1.ownBlock = some g → BN ≠ g := fun g e => Ne.symm (HNE1.out g e)
        have hrow : ∀ g, u1.ownBlock = some g → w.heap.size ≤ g := fun g e => (HO1.out.lt g e).1
        have sz15 : v14.heap.size ≤ v15.heap.size := hg.size
        replace nx_0 := cell_grow hg nx_0 (fun g e => hnb g e)
        have HBh15 := Lib.hid (HBh14.out.grown hg (by have := HBh14.out.size; omega) (fun g e => hrow g e))
        have HO2 := Lib.hid hown2
        have HNE2 := Lib.hid (show ∀ g, u2.ownBlock = some g → g ≠ BN from fun g e => by (rcases hat2 with e2 | e2); (rw [e2] at e; exact HNE1.out g e); (have h7 : v14.heap.size = g := by (rw [e2] at e; simpa using e)); (have h8 := block_lt_of_cell (a := ⟨BN, 0, none⟩) nx_00); omega)
        clear hown2 hg hat2 hrow hnb
        clear nx_00
        refine hK.out _ _ ?_ (fun hHeld => ?_)
        · exact trivial
        clear hK K
        try simp only [List.getElem_toArray, List.getElem_cons_succ, List.getElem_cons_zero, Act.put, List.setIfInBounds_toArray, List.set_cons_zero, List.set_cons_succ]
        refine wpAnyH_ready (rs := [11]) (by kernel_rfl) (by simp) ?_
        refine AllReadyH.cons rfl (fun K hK => ?_) AllReadyH.nil
        clear hHeld
        refine step_append_any rfl _ _ 38 rfl w.heap.size 22 i0 (.slice none 0 0) 1 24 Try.underlying38 hi hz0 hz1 hz2 rfl (by decide) u2 (0 + kk + 1) ([] ++ (cs.take kk) ++ [.slice sa s.length sc]) (by rfl) HO2.out ⟨gl, kk, none⟩ (rows.length - kk) (cp - kk) (cs.drop kk) (by rfl) (by rw [List.length_drop]; omega) (fun j u hj => by rw [Go.WideShapes.add_plain]; exact cell_below HBh15.out (HCL.out (kk + j) u (by rw [List.getElem?_drop] at hj; exact hj)) hgl) (fun u hu => HONE.out u (List.mem_of_mem_drop hu)) (by unfold maxLen; omega) (by omega) (by have := HBh15.out.size; omega) ?_
        intro u3 v16 hown3 hg hat3
        have nx_00 := nx_0
        have hnb : ∀ g, u2.ownBlock = some g → BN ≠ g := fun g e => Ne.symm (HNE2.out g e)
        have hrow : ∀ g, u2.ownBlock = some g → w.heap.size ≤ g := fun g e => (HO2.out.lt g e).1
        have sz16 : v15.heap.size ≤ v16.heap.size := hg.size
        replace nx_0 := cell_grow hg nx_0 (fun g e => hnb g e)
        have HBh16 := Lib.hid (HBh15.out.grown hg (by have := HBh15.out.size; omega) (fun g e => hrow g e))
        have HO3 := Lib.hid hown3
        have HNE3 := Lib.hid (show ∀ g, u3.ownBlock = some g → g ≠ BN from fun g e => by (rcases hat3 with e2 | e2); (rw [e2] at e; exact HNE2.out g e); (have h7 : v15.heap.size = g := by (rw [e2] at e; simpa using e)); (have h8 := block_lt_of_cell (a := ⟨BN, 0, none⟩) nx_00); omega)
        clear hown3 hg hat3 hrow hnb
        clear nx_00
        refine hK.out _ _ ?_ (fun hHeld => ?_)
        · exact trivial
        clear hK K
        try simp only [List.getElem_toArray, List.getElem_cons_succ, List.getElem_cons_zero, Act.put, List.setIfInBounds_toArray, List.set_cons_zero, List.set_cons_succ]
        refine wpAnyH_take (i := 12) (v := ?_) rfl (by kernel_rfl) (by kernel_rfl) (by kernel_rfl) (fun _ _ _ h => h) (Or.inl ⟨by rfl, ?_⟩) (by assumption) ?_
        rotate_left
        · intro w9 hSw; (try dsimp only at hSw); go_simp; try with_reducible rfl
        try simp only [List.getElem_toArray, List.getElem_cons_succ, List.getElem_cons_zero, Act.put, List.setIfInBounds_toArray, List.set_cons_zero, List.set_cons_succ]
        refine wpAnyH_done (by kernel_rfl) ?_ _
        refine NoPanic.normal ?_
        clear hHeld
        have hfin : v16.ownsRow w.heap.size 22 1 u3 (rows.length + 1) (insAt cs kk (.slice sa s.length sc)) := by
          have h7 := HO3.out
          rw [show 0 + kk + 1 + (rows.length - kk) = rows.length + 1 by omega] at h7
          simpa [insAt, List.append_assoc] using h7
        have HF := Lib.hid hfin
        clear hfin
        go_wp2_with fail
        go_ret
        exact ⟨u3, rfl, HF.out, HBh16.out⟩
end Go.Proofs.Ytobdapalllaceaa.put
