/- Several texts in one. -/
import Derived.Deep.AppendLies
import Derived.Deep.DrawnRows
import Derived.Deep.RegionHeld3
import Derived.Maps.AppendAt
import Derived.Test.YthohnnobahcdpaaBndP
import Derived.Test.YthohnnobahcdpaaOwnG
import Derived.Test.YthohnnobahcdpaaBrG20
namespace Go.Proofs.Ythohnnobahcdpaa.puti
open Go.RowKit own pp nums bndp
set_option linter.unusedVariables false
attribute [local go_sem ↓] Go.wp_at_zero Go.wp_at_succ
set_option linter.unusedSimpArgs false

theorem block_lt_of_cell {w : World} {a : Addr} {x : Value} (h : w.cell? a = some x) : a.block < w.heap.size := World.block_lt_of_cell? w a h
theorem cell_keep {W W' : World} (h : Below W.heap.size W W') {b o : Nat} {x : Value} (hx : W.cell? ⟨b, o, none⟩ = some x) : W'.cell? ⟨b, o, none⟩ = some x :=
  cell_below h hx (block_lt_of_cell (a := ⟨b, o, none⟩) hx)
theorem fro_keep {W W' : World} (h : Below W.heap.size W W') {b o o' : Nat} {x : Value} (hx : W.cell? ⟨b, o', none⟩ = some x) (hf : W.frozen? ⟨b, o, none⟩ = false) : W'.frozen? ⟨b, o, none⟩ = false :=
  fro_below h hf (block_lt_of_cell (a := ⟨b, o', none⟩) hx)
theorem cell_grow {W W' : World} {row : Option Nat} (h : W.grownBy W' row) {b o : Nat} {x : Value} (hx : W.cell? ⟨b, o, none⟩ = some x) (hne : ∀ g, row = some g → b ≠ g) : W'.cell? ⟨b, o, none⟩ = some x :=
  (World.cell?_of_block (h.block b (block_lt_of_cell (a := ⟨b, o, none⟩) hx) (fun e => hne b e.symm rfl))).trans hx
theorem fro_grow {W W' : World} {row : Option Nat} (h : W.grownBy W' row) {b o o' : Nat} {x : Value} (hx : W.cell? ⟨b, o', none⟩ = some x) (hf : W.frozen? ⟨b, o, none⟩ = false) (hne : ∀ g, row = some g → b ≠ g) : W'.frozen? ⟨b, o, none⟩ = false :=
  (World.frozen?_of_block (a := ⟨b, o, none⟩) (h.block b (block_lt_of_cell (a := ⟨b, o', none⟩) hx) (fun e => hne b e.symm rfl))).trans hf
theorem own_grow {W W' : World} {row : Option Nat} (h : W.grownBy W' row) {lo hi : Nat} {v : Value} {zs : List Int} (ho : OwnI lo hi W v zs) (hne : ∀ g, row = some g → g < lo ∨ hi ≤ g) : OwnI lo hi W' v zs :=
  ho.block fun g hg => h.block g (ho.lt hg).2.2 (fun e => by have := hne g e.symm; have := ho.lt hg; omega)
theorem cell_set2 {W : World} {b o b' o' : Nat} {x : Value} (hx : W.cell? ⟨b, o, none⟩ = some x) (hne : b ≠ b') (u : Value) : (W.setCell ⟨b', o', none⟩ u).cell? ⟨b, o, none⟩ = some x :=
  (World.cell?_of_block (Below.heap_setCell _ _ _ _ (by show b ≠ b'; exact hne))).trans hx
theorem step_append_any {ops : Array Oper} {o : Oper} {a : Act} {w : World} {K : Act → World → Prop} {Q : Exit → Act → World → Prop} {E : Prop} (hgd : o.guard = none) (s x : Operand) (t : TypeId)
    (ho : o.op = .call { callee := .builtin .append, args := #[s, x], argTypes := #[t, t] })
    (base : Nat) (e : TypeId) (i : TypeInfo) (z : Value) (size bytes : Nat) (ht : Try.prog.underlying t = some (.slice e)) (hi : Try.prog.info? e = some i) (hz : i.zero = some z)
    (hsize : i.size = size) (hby : i.bytes = bytes) (hzs : z.cells.size = size) (hsz : 0 < size)
    (v : Value) (n : Nat) (xs : List Value) (hs : a.eval s = v) (hown : w.ownsRow base e size v n xs)
    (ad : Addr) (m c : Nat) (news : List Value) (hx : a.eval x = .slice (some ad) m c) (hl : news.length = m * size) (hnews : ∀ j u, news[j]? = some u → w.cell? (ad.add j) = some u) (h1 : ∀ u ∈ news, u.oneCell' = true)
    (h63 : n + m ≤ maxLen) (hbytes : (n + m) * bytes ≤ 140737488355328) (hbase : base ≤ w.heap.size)
    (h : ∀ v' w', w'.ownsRow base e size v' (n + m) (xs ++ news) → w.grownBy w' v.ownBlock → (v'.ownBlock = v.ownBlock ∨ v'.ownBlock = some w.heap.size) → K (a.put o.dst v') w') :
    if Region.wanted o (yielded ops a.tmps) = true then Oper.wp Try.prog o a w K Q else E := by
  have hw : Region.wanted o (yielded ops a.tmps) = true := by simp [Region.wanted, hgd]
  rw [if_pos hw]
  obtain ⟨v', w', hr, h2, h3, _, h4⟩ := run_append_own_at (P := Try.prog) w base t o.type e i z size bytes ht hi hz hsize hby hzs hsz v n xs hown ad m c news hl hnews h1 h63 hbytes hbase
  unfold Oper.wp execOp
  simp only [ho, resolve, invoke, builtin, Sem.run_bind, Sem.run_pure, Result.andThen_ok, List.map_toArray, List.map_cons, List.map_nil, hs, hx, hr]
  exact h v' w' h2 h3 h4
theorem take_some {α : Type} {l : List α} {k j : Nat} {u : α} (h : (l.take k)[j]? = some u) : l[j]? = some u := by
  rw [List.getElem?_take] at h
  split at h
  · exact h
  · cases h
theorem ints_one (zs : List Int) : ∀ u ∈ zs.map (Value.int .i64), u.oneCell' = true := by
  intro u hu
  obtain ⟨z, _, rfl⟩ := List.mem_map.1 hu
  rfl
set_option maxRecDepth 100000 in
set_option maxHeartbeats 4000000 in
theorem spec_put (lo gl cp : Nat) (zs : List Int) (n9 : Int) (w : World) (ho : w.ownsRow lo 3 1 (.slice (some ⟨gl, 0, none⟩) zs.length cp) zs.length (zs.map (Value.int .i64))) (hn : zs.length ≤ 20) :
    Calls Try.prog 110 #[.slice (some ⟨gl, 0, none⟩) zs.length cp, .int .i64 n9] w (fun e w' => ∃ v, e = .returned v ∧ w'.ownsRow lo 3 1 v (putI zs n9).length ((putI zs n9).map (Value.int .i64)) ∧ Below w.heap.size w w') := by
  obtain ⟨i0, hi, hz0, hz1, hz2⟩ := info_parts mk.infoInt
  obtain ⟨cs, hcs⟩ : ∃ cs : List Value, zs.map (Value.int .i64) = cs := ⟨_, rfl⟩
  have HONE := Lib.hid (show ∀ u ∈ cs, u.oneCell' = true by rw [← hcs]; exact ints_one zs)
  have hcl : cs.length = zs.length := by rw [← hcs, List.length_map]
  have HCL := Lib.hid (show ∀ j u, cs[j]? = some u → w.cell? ⟨gl, j, none⟩ = some u from fun j u hj => by rw [ho.cellAt j (by have := (List.getElem?_eq_some_iff.1 hj).1; omega), hcs]; exact hj)
  have hgl : gl < w.heap.size := (ho.lt gl rfl).2
  have hlo : lo ≤ w.heap.size := by have := ho.lt gl rfl; omega
  have hcap : zs.length ≤ cp := by
    rcases ho.2 with ⟨e, _⟩ | ⟨g, cap, cur, e, _, _, h1, _⟩
    · cases e
    · cases e; exact h1
  have HZ := Lib.hid (show ∀ k, k < zs.length → w.cell? ⟨gl, k, none⟩ = some (.int .i64 (zs.getD k 0)) from fun k hk => by
    rw [ho.cellAt k (by omega), List.getElem?_map, List.getElem?_eq_getElem hk, List.getD_eq_getElem?_getD, List.getElem?_eq_getElem hk]; rfl)
  have HPH := Lib.hid (pos_hit zs n9)
  have HPM := Lib.hid (pos_miss zs n9)
  have hpl := pos_le zs n9
  have HFIN0 := Lib.hid (show ¬ (posI zs n9 < zs.length ∧ zs.getD (posI zs n9) 0 = n9) → ∀ (u : Value) (w' : World), w'.ownsRow w.heap.size 3 1 u (zs.length + 1) (cs.take (posI zs n9) ++ .int .i64 n9 :: cs.drop (posI zs n9)) → Below w.heap.size w w' → (∃ v, Ending.returned u = .returned v ∧ w'.ownsRow lo 3 1 v (putI zs n9).length ((putI zs n9).map (Value.int .i64)) ∧ Below w.heap.size w w') from fun hne u w' h hb => by
    have e : putI zs n9 = zs.take (posI zs n9) ++ n9 :: zs.drop (posI zs n9) := if_neg hne
    refine ⟨u, rfl, ?_, hb⟩
    rw [← hcs] at h
    rw [e]
    have hl : (zs.take (posI zs n9) ++ n9 :: zs.drop (posI zs n9)).length = zs.length + 1 := by
      rw [List.length_append, List.length_cons, List.length_take, List.length_drop]; omega
    rw [hl, List.map_append, List.map_cons, List.map_take, List.map_drop]
    exact ownsRow_base h (fun g hg => Nat.le_trans hlo (h.lt g hg).1))
  have HSAME := Lib.hid (show (posI zs n9 < zs.length ∧ zs.getD (posI zs n9) 0 = n9) → ∃ v, Ending.returned (.slice (some ⟨gl, 0, none⟩) zs.length cp) = .returned v ∧ w.ownsRow lo 3 1 v (putI zs n9).length ((putI zs n9).map (Value.int .i64)) ∧ Below w.heap.size w w from fun he => by
    have e : putI zs n9 = zs := if_pos he
    refine ⟨_, rfl, ?_, Below.refl _ _⟩
    rw [e]
    exact ho)
  generalize hplc : posI zs n9 = pl at *
  generalize putI zs n9 = res9 at *
  clear hplc ho hcs
  go_enter Try.func110, Try.ntmps110
  go_wp2_with fail
  go_loopw [5] (fun i wr => ∃ k : Nat, k ≤ pl ∧ i = .int .i64 k ∧ wr = w) (fun i _ => zs.length - (intOf i).toNat)
  case atStart => exact ⟨0, Nat.zero_le _, rfl, rfl⟩
  case round =>
    obtain ⟨kk, hk, rfl, hwr⟩ := hrel
    rw [hwr]
    clear hwr wr
    have k1 : (0 : Int) ≤ (kk : Int) := by omega
    by_cases hlt : kk < zs.length
    · have hcell := HZ.out kk hlt
      have k2 : (kk : Int) < (zs.length : Int) := by omega
      by_cases hkp : kk < pl
      · have hb := HPH.out kk hkp
        generalize zs.getD kk 0 = z at *
        have g : decide (z < n9) = true := by simpa using hb
        clear hb
        go_wp2_with fail
        go_roundw
        case rel => exact ⟨kk + 1, by omega, by go_num, trivial⟩
        case measure => simp [intOf]; omega
      · obtain rfl : kk = pl := by omega
        have hb := HPM.out hlt
        by_cases he : zs.getD kk 0 = n9
        · have HS := Lib.hid (HSAME.out ⟨hlt, he⟩)
          have g : decide (zs.getD kk 0 < n9) = false := by simpa using hb
          have g2 : (zs.getD kk 0 == n9) = true := by simpa using he
          clear hb he HSAME HFIN0
          generalize zs.getD kk 0 = z at *
          go_wp2_with fail
          go_ret
          exact HS.out
        · have HFIN := Lib.hid (HFIN0.out (fun h => he h.2))
          have g : decide (zs.getD kk 0 < n9) = false := by simpa using hb
          have g2 : (zs.getD kk 0 == n9) = false := by simpa using he
          have HBM := Lib.hid (Below.refl w.heap.size w)
          clear hb he HSAME HFIN0
          generalize zs.getD kk 0 = z at *
          have hk1 : kk ≤ cp := by omega
          have hk2 : ¬ (cp = kk) := by omega
          go_wp2_with fail
          refine wp_region_noPanic ?_
          refine wp_region_held_drew (S := fun w' => True) (by kernel_rfl) ?_ (fun hHeld => ?_)
          · exact trivial
          have hb : Below w.heap.size w w.drew := (Below.refl _ _).drew
          generalize hwn : w.drew = v11 at *
          clear hwn
          have sz11 : w.heap.size ≤ v11.heap.size := hb.size
          have HBh11 := Lib.hid (HBM.out.trans (hb.mono (by have := HBM.out.size; omega)))
          clear hb
          refine wpAnyH_take (i := 1) (v := ?_) rfl (by kernel_rfl) (by kernel_rfl) (by kernel_rfl) (fun _ _ _ h => h) (Or.inl ⟨by rfl, ?_⟩) (by assumption) ?_
          rotate_left
          · intro w9 hSw; (try dsimp only at hSw); go_simp; try with_reducible rfl
          try simp only [List.getElem_toArray, List.getElem_cons_succ, List.getElem_cons_zero, Act.put, List.setIfInBounds_toArray, List.set_cons_zero, List.set_cons_succ]
          refine wpAnyH_take (i := 2) (v := ?_) rfl (by kernel_rfl) (by kernel_rfl) (by kernel_rfl) (fun _ _ _ h => h) (Or.inl ⟨by rfl, ?_⟩) (by assumption) ?_
          rotate_left
          · intro w9 hSw; (try dsimp only at hSw); go_simp; try with_reducible rfl
          try simp only [List.getElem_toArray, List.getElem_cons_succ, List.getElem_cons_zero, Act.put, List.setIfInBounds_toArray, List.set_cons_zero, List.set_cons_succ]
          refine wpAnyH_take (i := 3) (v := ?_) rfl (by kernel_rfl) (by kernel_rfl) (by kernel_rfl) (fun _ _ _ h => h) (Or.inl ⟨by rfl, ?_⟩) (by assumption) ?_
          rotate_left
          · intro w9 hSw; (try dsimp only at hSw); go_simp; try with_reducible rfl
          try simp only [List.getElem_toArray, List.getElem_cons_succ, List.getElem_cons_zero, Act.put, List.setIfInBounds_toArray, List.set_cons_zero, List.set_cons_succ]
          refine wpAnyH_take (i := 5) (v := ?_) rfl (by kernel_rfl) (by kernel_rfl) (by kernel_rfl) (fun _ _ _ h => h) (Or.inl ⟨by rfl, ?_⟩) (by assumption) ?_
          rotate_left
          · intro w9 hSw; (try dsimp only at hSw); go_simp; try with_reducible rfl
          try simp only [List.getElem_toArray, List.getElem_cons_succ, List.getElem_cons_zero, Act.put, List.setIfInBounds_toArray, List.set_cons_zero, List.set_cons_succ]
          refine wpAnyH_take (i := 8) (v := ?_) rfl (by kernel_rfl) (by kernel_rfl) (by kernel_rfl) (fun _ _ _ h => h) (Or.inl ⟨by rfl, ?_⟩) (by assumption) ?_
          rotate_left
          · intro w9 hSw; (try dsimp only at hSw); go_simp; try with_reducible rfl
          try simp only [List.getElem_toArray, List.getElem_cons_succ, List.getElem_cons_zero, Act.put, List.setIfInBounds_toArray, List.set_cons_zero, List.set_cons_succ]
          refine wpAnyH_take (i := 9) (v := ?_) rfl (by kernel_rfl) (by kernel_rfl) (by kernel_rfl) (fun _ _ _ h => h) (Or.inl ⟨by rfl, ?_⟩) (by assumption) ?_
          rotate_left
          · intro w9 hSw; (try dsimp only at hSw); go_simp; try with_reducible rfl
          try simp only [List.getElem_toArray, List.getElem_cons_succ, List.getElem_cons_zero, Act.put, List.setIfInBounds_toArray, List.set_cons_zero, List.set_cons_succ]
          refine wpAnyH_take (i := 10) (v := ?_) rfl (by kernel_rfl) (by kernel_rfl) (by kernel_rfl) (fun _ _ _ h => h) (Or.inl ⟨by rfl, ?_⟩) (by assumption) ?_
          rotate_left
          · intro w9 hSw; (try dsimp only at hSw); go_simp; try with_reducible rfl
          try simp only [List.getElem_toArray, List.getElem_cons_succ, List.getElem_cons_zero, Act.put, List.setIfInBounds_toArray, List.set_cons_zero, List.set_cons_succ]
          refine wpAnyH_ready (rs := [0, 6]) (by kernel_rfl) (by simp) ?_
          refine AllReadyH.cons rfl (fun K hK => ?_) ?_
          · skip
            clear hHeld
            go_simp
            have ho0 : (v11.alloc (.cells #[] 3)).ownsRow w.heap.size 3 1 (.slice (some ⟨v11.heap.size, 0, none⟩) 0 0) 0 [] := World.ownsRow_made (base := w.heap.size) (e := 3) (size := 1) v11 #[] 0 (by have := HBh11.out.size; omega) (by unfold maxLen; omega) rfl
            have hb := below_alloc v11 (.cells #[] 3)
            have lt_v0 := size_alloc' v11 (.cells #[] 3)
            obtain ⟨B0, hB0⟩ : ∃ B0 : Nat, B0 = v11.heap.size := ⟨_, rfl⟩
            rw [← hB0] at ho0 ⊢
            have hB0l : B0 ≤ v11.heap.size ∧ v11.heap.size ≤ B0 := by omega
            clear hB0
            generalize hwn : v11.alloc (.cells #[] 3) = v12 at *
            clear hwn
            have sz12 : v11.heap.size ≤ v12.heap.size := hb.size
            have HBh12 := Lib.hid (HBh11.out.trans (hb.mono (by have := HBh11.out.size; omega)))
            clear hb
            have HO0 := Lib.hid ho0
            clear ho0
            refine hK.out _ _ ?_ (fun hHeld => ?_)
            · exact trivial
            clear hK K
            try simp only [List.getElem_toArray, List.getElem_cons_succ, List.getElem_cons_zero, Act.put, List.setIfInBounds_toArray, List.set_cons_zero, List.set_cons_succ]
            refine wpAnyH_ready (rs := [4, 6]) (by kernel_rfl) (by simp) ?_
            refine AllReadyH.cons rfl (fun K hK => ?_) ?_
            · skip
              clear hHeld
              refine step_append_any rfl _ _ 22 rfl w.heap.size 3 i0 (.int .i64 0) 1 8 Try.underlying22 hi hz0 hz1 hz2 rfl (by decide) (Value.slice (some ⟨B0, 0, none⟩) 0 0) (0) ([]) (by rfl) HO0.out ⟨gl, 0, none⟩ kk cp (cs.take kk) (by rfl) (by rw [List.length_take]; omega) (fun j u hj => by rw [Go.WideShapes.add_plain, Nat.zero_add]; exact cell_below HBh12.out (HCL.out j u (take_some hj)) hgl) (fun u hu => HONE.out u (List.mem_of_mem_take hu)) (by unfold maxLen; omega) (by omega) (by have := HBh12.out.size; omega) ?_
              intro u1 v13 hown1 hg hat1
              have hrow : ∀ g, (Value.slice (some ⟨B0, 0, none⟩) 0 0).ownBlock = some g → w.heap.size ≤ g := fun g e => (HO0.out.lt g e).1
              have sz13 : v12.heap.size ≤ v13.heap.size := hg.size
              have HBh13 := Lib.hid (HBh12.out.grown hg (by have := HBh12.out.size; omega) (fun g e => hrow g e))
              have HO1 := Lib.hid hown1
              clear hown1 hg hat1 hrow
              refine hK.out _ _ ?_ (fun hHeld => ?_)
              · exact trivial
              clear hK K
              try simp only [List.getElem_toArray, List.getElem_cons_succ, List.getElem_cons_zero, Act.put, List.setIfInBounds_toArray, List.set_cons_zero, List.set_cons_succ]
              refine wpAnyH_ready (rs := [6]) (by kernel_rfl) (by simp) ?_
              refine AllReadyH.cons rfl (fun K hK => ?_) AllReadyH.nil
              clear hHeld
              go_simp
              have nx_0 : (v13.alloc (.cells #[.int .i64 n9] 3)).cell? ⟨v13.heap.size, 0, none⟩ = some (.int .i64 n9) := cell_new _ _ _ rfl rfl
              have HNE1 := Lib.hid (show ∀ g, u1.ownBlock = some g → g ≠ v13.heap.size from fun g e => by have := (HO1.out.lt g e).2; omega)
              replace HO1 := Lib.hid (HO1.out.alloc (.cells #[.int .i64 n9] 3))
              have hb := below_alloc v13 (.cells #[.int .i64 n9] 3)
              have lt_nx := size_alloc' v13 (.cells #[.int .i64 n9] 3)
              obtain ⟨BN, hBN⟩ : ∃ BN : Nat, BN = v13.heap.size := ⟨_, rfl⟩
              rw [← hBN] at nx_0 HNE1 ⊢
              have hBNl : BN ≤ v13.heap.size ∧ v13.heap.size ≤ BN := by omega
              clear hBN
              generalize hwn : v13.alloc (.cells #[.int .i64 n9] 3) = v14 at *
              clear hwn
              have sz14 : v13.heap.size ≤ v14.heap.size := hb.size
              have HBh14 := Lib.hid (HBh13.out.trans (hb.mono (by have := HBh13.out.size; omega)))
              clear hb
              refine hK.out _ _ ?_ (fun hHeld => ?_)
              · exact trivial
              clear hK K
              try simp only [List.getElem_toArray, List.getElem_cons_succ, List.getElem_cons_zero, Act.put, List.setIfInBounds_toArray, List.set_cons_zero, List.set_cons_succ]
              refine wpAnyH_ready (rs := [7]) (by kernel_rfl) (by simp) ?_
              refine AllReadyH.cons rfl (fun K hK => ?_) AllReadyH.nil
              clear hHeld
              refine step_append_any rfl _ _ 22 rfl w.heap.size 3 i0 (.int .i64 0) 1 8 Try.underlying22 hi hz0 hz1 hz2 rfl (by decide) u1 (0 + kk) ([] ++ (cs.take kk)) (by rfl) HO1.out ⟨BN, 0, none⟩ 1 1 [.int .i64 n9] (by rfl) (by rfl) (fun j u hj => by (have h7 : j = 0 := by (have := (List.getElem?_eq_some_iff.1 hj).1; simp at this; exact this)); subst h7; simp at hj; subst hj; simpa [Addr.add] using nx_0) (by simp [Value.oneCell']) (by unfold maxLen; omega) (by omega) (by have := HBh14.out.size; omega) ?_
              intro u2 v15 hown2 hg hat2
              have nx_00 := nx_0
              have hnb : ∀ g, u1.ownBlock = some g → BN ≠ g := fun g e => Ne.symm (HNE1.out g e)
              have hrow : ∀ g, u1.ownBlock = some g → w.heap.size ≤ g := fun g e => (HO1.out.lt g e).1
              have sz15 : v14.heap.size ≤ v15.heap.size := hg.size
              replace nx_0 := cell_grow hg nx_0 (fun g e => hnb g e)
              have HBh15 := Lib.hid (HBh14.out.grown hg (by have := HBh14.out.size; omega) (fun g e => hrow g e))
              have HO2 := Lib.hid hown2
              have HNE2 := Lib.hid (show ∀ g, u2.ownBlock = some g → g ≠ BN from fun g e => by (rcases hat2 with e2 | e2); (rw [e2] at e; exact HNE1.out g e); (have h7 : v14.heap.size = g := by (rw [e2] at e; simpa using e)); (have h8 := block_lt_of_cell (a := ⟨BN, 0, none⟩) nx_00); omega)
              clear hown2 hg hat2 hrow hnb
              clear nx_00
              refine hK.out _ _ ?_ (fun hHeld => ?_)
              · exact trivial
              clear hK K
              try simp only [List.getElem_toArray, List.getElem_cons_succ, List.getElem_cons_zero, Act.put, List.setIfInBounds_toArray, List.set_cons_zero, List.set_cons_succ]
              refine wpAnyH_ready (rs := [11]) (by kernel_rfl) (by simp) ?_
              refine AllReadyH.cons rfl (fun K hK => ?_) AllReadyH.nil
              clear hHeld
              refine step_append_any rfl _ _ 22 rfl w.heap.size 3 i0 (.int .i64 0) 1 8 Try.underlying22 hi hz0 hz1 hz2 rfl (by decide) u2 (0 + kk + 1) ([] ++ (cs.take kk) ++ [.int .i64 n9]) (by rfl) HO2.out ⟨gl, kk, none⟩ (zs.length - kk) (cp - kk) (cs.drop kk) (by rfl) (by rw [List.length_drop]; omega) (fun j u hj => by rw [Go.WideShapes.add_plain]; exact cell_below HBh15.out (HCL.out (kk + j) u (by rw [List.getElem?_drop] at hj; exact hj)) hgl) (fun u hu => HONE.out u (List.mem_of_mem_drop hu)) (by unfold maxLen; omega) (by omega) (by have := HBh15.out.size; omega) ?_
              intro u3 v16 hown3 hg hat3
              have nx_00 := nx_0
              have hnb : ∀ g, u2.ownBlock = some g → BN ≠ g := fun g e => Ne.symm (HNE2.out g e)
              have hrow : ∀ g, u2.ownBlock = some g → w.heap.size ≤ g := fun g e => (HO2.out.lt g e).1
              have sz16 : v15.heap.size ≤ v16.heap.size := hg.size
              replace nx_0 := cell_grow hg nx_0 (fun g e => hnb g e)
              have HBh16 := Lib.hid (HBh15.out.grown hg (by have := HBh15.out.size; omega) (fun g e => hrow g e))
              have HO3 := Lib.hid hown3
              have HNE3 := Lib.hid (show ∀ g, u3.ownBlock = some g → g ≠ BN from fun g e => by (rcases hat3 with e2 | e2); (rw [e2] at e; exact HNE2.out g e); (have h7 : v15.heap.size = g := by (rw [e2] at e; simpa using e)); (have h8 := block_lt_of_cell (a := ⟨BN, 0, none⟩) nx_00); omega)
              clear hown3 hg hat3 hrow hnb
              clear nx_00
              refine hK.out _ _ ?_ (fun hHeld => ?_)
              · exact trivial
              clear hK K
              try simp only [List.getElem_toArray, List.getElem_cons_succ, List.getElem_cons_zero, Act.put, List.setIfInBounds_toArray, List.set_cons_zero, List.set_cons_succ]
              refine wpAnyH_take (i := 12) (v := ?_) rfl (by kernel_rfl) (by kernel_rfl) (by kernel_rfl) (fun _ _ _ h => h) (Or.inl ⟨by rfl, ?_⟩) (by assumption) ?_
              rotate_left
              · intro w9 hSw; (try dsimp only at hSw); go_simp; try with_reducible rfl
              try simp only [List.getElem_toArray, List.getElem_cons_succ, List.getElem_cons_zero, Act.put, List.setIfInBounds_toArray, List.set_cons_zero, List.set_cons_succ]
              refine wpAnyH_done (by kernel_rfl) ?_ _
              refine NoPanic.normal ?_
              clear hHeld
              have hfin : v16.ownsRow w.heap.size 3 1 u3 (zs.length + 1) (cs.take kk ++ .int .i64 n9 :: cs.drop kk) := by
                have h7 := HO3.out
                rw [show 0 + kk + 1 + (zs.length - kk) = zs.length + 1 by omega] at h7
                simpa [List.append_assoc] using h7
              have HF := Lib.hid hfin
              clear hfin
              go_wp2_with fail
              go_ret
              exact HFIN.out u3 v16 HF.out HBh16.out
            refine AllReadyH.cons rfl (fun K hK => ?_) AllReadyH.nil
            clear hHeld
            go_simp
            have nx_0 : (v12.alloc (.cells #[.int .i64 n9] 3)).cell? ⟨v12.heap.size, 0, none⟩ = some (.int .i64 n9) := cell_new _ _ _ rfl rfl
            have HNE0 := Lib.hid (show ∀ g, (Value.slice (some ⟨B0, 0, none⟩) 0 0).ownBlock = some g → g ≠ v12.heap.size from fun g e => by have := (HO0.out.lt g e).2; omega)
            replace HO0 := Lib.hid (HO0.out.alloc (.cells #[.int .i64 n9] 3))
            have hb := below_alloc v12 (.cells #[.int .i64 n9] 3)
            have lt_nx := size_alloc' v12 (.cells #[.int .i64 n9] 3)
            obtain ⟨BN, hBN⟩ : ∃ BN : Nat, BN = v12.heap.size := ⟨_, rfl⟩
            rw [← hBN] at nx_0 HNE0 ⊢
            have hBNl : BN ≤ v12.heap.size ∧ v12.heap.size ≤ BN := by omega
            clear hBN
            generalize hwn : v12.alloc (.cells #[.int .i64 n9] 3) = v13 at *
            clear hwn
            have sz13 : v12.heap.size ≤ v13.heap.size := hb.size
            have HBh13 := Lib.hid (HBh12.out.trans (hb.mono (by have := HBh12.out.size; omega)))
            clear hb
            refine hK.out _ _ ?_ (fun hHeld => ?_)
            · exact trivial
            clear hK K
            try simp only [List.getElem_toArray, List.getElem_cons_succ, List.getElem_cons_zero, Act.put, List.setIfInBounds_toArray, List.set_cons_zero, List.set_cons_succ]
            refine wpAnyH_ready (rs := [4]) (by kernel_rfl) (by simp) ?_
            refine AllReadyH.cons rfl (fun K hK => ?_) AllReadyH.nil
            clear hHeld
            refine step_append_any rfl _ _ 22 rfl w.heap.size 3 i0 (.int .i64 0) 1 8 Try.underlying22 hi hz0 hz1 hz2 rfl (by decide) (Value.slice (some ⟨B0, 0, none⟩) 0 0) (0) ([]) (by rfl) HO0.out ⟨gl, 0, none⟩ kk cp (cs.take kk) (by rfl) (by rw [List.length_take]; omega) (fun j u hj => by rw [Go.WideShapes.add_plain, Nat.zero_add]; exact cell_below HBh13.out (HCL.out j u (take_some hj)) hgl) (fun u hu => HONE.out u (List.mem_of_mem_take hu)) (by unfold maxLen; omega) (by omega) (by have := HBh13.out.size; omega) ?_
            intro u1 v14 hown1 hg hat1
            have nx_00 := nx_0
            have hnb : ∀ g, (Value.slice (some ⟨B0, 0, none⟩) 0 0).ownBlock = some g → BN ≠ g := fun g e => Ne.symm (HNE0.out g e)
            have hrow : ∀ g, (Value.slice (some ⟨B0, 0, none⟩) 0 0).ownBlock = some g → w.heap.size ≤ g := fun g e => (HO0.out.lt g e).1
            have sz14 : v13.heap.size ≤ v14.heap.size := hg.size
            replace nx_0 := cell_grow hg nx_0 (fun g e => hnb g e)
            have HBh14 := Lib.hid (HBh13.out.grown hg (by have := HBh13.out.size; omega) (fun g e => hrow g e))
            have HO1 := Lib.hid hown1
            have HNE1 := Lib.hid (show ∀ g, u1.ownBlock = some g → g ≠ BN from fun g e => by (rcases hat1 with e2 | e2); (rw [e2] at e; exact HNE0.out g e); (have h7 : v13.heap.size = g := by (rw [e2] at e; simpa using e)); (have h8 := block_lt_of_cell (a := ⟨BN, 0, none⟩) nx_00); omega)
            clear hown1 hg hat1 hrow hnb
            clear nx_00
            refine hK.out _ _ ?_ (fun hHeld => ?_)
            · exact trivial
            clear hK K
            try simp only [List.getElem_toArray, List.getElem_cons_succ, List.getElem_cons_zero, Act.put, List.setIfInBounds_toArray, List.set_cons_zero, List.set_cons_succ]
            refine wpAnyH_ready (rs := [7]) (by kernel_rfl) (by simp) ?_
            refine AllReadyH.cons rfl (fun K hK => ?_) AllReadyH.nil
            clear hHeld
            refine step_append_any rfl _ _ 22 rfl w.heap.size 3 i0 (.int .i64 0) 1 8 Try.underlying22 hi hz0 hz1 hz2 rfl (by decide) u1 (0 + kk) ([] ++ (cs.take kk)) (by rfl) HO1.out ⟨BN, 0, none⟩ 1 1 [.int .i64 n9] (by rfl) (by rfl) (fun j u hj => by (have h7 : j = 0 := by (have := (List.getElem?_eq_some_iff.1 hj).1; simp at this; exact this)); subst h7; simp at hj; subst hj; simpa [Addr.add] using nx_0) (by simp [Value.oneCell']) (by unfold maxLen; omega) (by omega) (by have := HBh14.out.size; omega) ?_
            intro u2 v15 hown2 hg hat2
            have nx_00 := nx_0
            have hnb : ∀ g, u1.ownBlock = some g → BN ≠ g := fun g e => Ne.symm (HNE1.out g e)
            have hrow : ∀ g, u1.ownBlock = some g → w.heap.size ≤ g := fun g e => (HO1.out.lt g e).1
            have sz15 : v14.heap.size ≤ v15.heap.size := hg.size
            replace nx_0 := cell_grow hg nx_0 (fun g e => hnb g e)
            have HBh15 := Lib.hid (HBh14.out.grown hg (by have := HBh14.out.size; omega) (fun g e => hrow g e))
            have HO2 := Lib.hid hown2
            have HNE2 := Lib.hid (show ∀ g, u2.ownBlock = some g → g ≠ BN from fun g e => by (rcases hat2 with e2 | e2); (rw [e2] at e; exact HNE1.out g e); (have h7 : v14.heap.size = g := by (rw [e2] at e; simpa using e)); (have h8 := block_lt_of_cell (a := ⟨BN, 0, none⟩) nx_00); omega)
            clear hown2 hg hat2 hrow hnb
            clear nx_00
            refine hK.out _ _ ?_ (fun hHeld => ?_)
            · exact trivial
            clear hK K
            try simp only [List.getElem_toArray, List.getElem_cons_succ, List.getElem_cons_zero, Act.put, List.setIfInBounds_toArray, List.set_cons_zero, List.set_cons_succ]
            refine wpAnyH_ready (rs := [11]) (by kernel_rfl) (by simp) ?_
            refine AllReadyH.cons rfl (fun K hK => ?_) AllReadyH.nil
            clear hHeld
            refine step_append_any rfl _ _ 22 rfl w.heap.size 3 i0 (.int .i64 0) 1 8 Try.underlying22 hi hz0 hz1 hz2 rfl (by decide) u2 (0 + kk + 1) ([] ++ (cs.take kk) ++ [.int .i64 n9]) (by rfl) HO2.out ⟨gl, kk, none⟩ (zs.length - kk) (cp - kk) (cs.drop kk) (by rfl) (by rw [List.length_drop]; omega) (fun j u hj => by rw [Go.WideShapes.add_plain]; exact cell_below HBh15.out (HCL.out (kk + j) u (by rw [List.getElem?_drop] at hj; exact hj)) hgl) (fun u hu => HONE.out u (List.mem_of_mem_drop hu)) (by unfold maxLen; omega) (by omega) (by have := HBh15.out.size; omega) ?_
            intro u3 v16 hown3 hg hat3
            have nx_00 := nx_0
            have hnb : ∀ g, u2.ownBlock = some g → BN ≠ g := fun g e => Ne.symm (HNE2.out g e)
            have hrow : ∀ g, u2.ownBlock = some g → w.heap.size ≤ g := fun g e => (HO2.out.lt g e).1
            have sz16 : v15.heap.size ≤ v16.heap.size := hg.size
            replace nx_0 := cell_grow hg nx_0 (fun g e => hnb g e)
            have HBh16 := Lib.hid (HBh15.out.grown hg (by have := HBh15.out.size; omega) (fun g e => hrow g e))
            have HO3 := Lib.hid hown3
            have HNE3 := Lib.hid (show ∀ g, u3.ownBlock = some g → g ≠ BN from fun g e => by (rcases hat3 with e2 | e2); (rw [e2] at e; exact HNE2.out g e); (have h7 : v15.heap.size = g := by (rw [e2] at e; simpa using e)); (have h8 := block_lt_of_cell (a := ⟨BN, 0, none⟩) nx_00); omega)
            clear hown3 hg hat3 hrow hnb
            clear nx_00
            refine hK.out _ _ ?_ (fun hHeld => ?_)
            · exact trivial
            clear hK K
            try simp only [List.getElem_toArray, List.getElem_cons_succ, List.getElem_cons_zero, Act.put, List.setIfInBounds_toArray, List.set_cons_zero, List.set_cons_succ]
            refine wpAnyH_take (i := 12) (v := ?_) rfl (by kernel_rfl) (by kernel_rfl) (by kernel_rfl) (fun _ _ _ h => h) (Or.inl ⟨by rfl, ?_⟩) (by assumption) ?_
            rotate_left
            · intro w9 hSw; (try dsimp only at hSw); go_simp; try with_reducible rfl
            try simp only [List.getElem_toArray, List.getElem_cons_succ, List.getElem_cons_zero, Act.put, List.setIfInBounds_toArray, List.set_cons_zero, List.set_cons_succ]
            refine wpAnyH_done (by kernel_rfl) ?_ _
            refine NoPanic.normal ?_
            clear hHeld
            have hfin : v16.ownsRow w.heap.size 3 1 u3 (zs.length + 1) (cs.take kk ++ .int .i64 n9 :: cs.drop kk) := by
              have h7 := HO3.out
              rw [show 0 + kk + 1 + (zs.length - kk) = zs.length + 1 by omega] at h7
              simpa [List.append_assoc] using h7
            have HF := Lib.hid hfin
            clear hfin
            go_wp2_with fail
            go_ret
            exact HFIN.out u3 v16 HF.out HBh16.out
          refine AllReadyH.cons rfl (fun K hK => ?_) AllReadyH.nil
          clear hHeld
          go_simp
          have nx_0 : (v11.alloc (.cells #[.int .i64 n9] 3)).cell? ⟨v11.heap.size, 0, none⟩ = some (.int .i64 n9) := cell_new _ _ _ rfl rfl
          have hb := below_alloc v11 (.cells #[.int .i64 n9] 3)
          have lt_nx := size_alloc' v11 (.cells #[.int .i64 n9] 3)
          obtain ⟨BN, hBN⟩ : ∃ BN : Nat, BN = v11.heap.size := ⟨_, rfl⟩
          rw [← hBN] at nx_0  ⊢
          have hBNl : BN ≤ v11.heap.size ∧ v11.heap.size ≤ BN := by omega
          clear hBN
          generalize hwn : v11.alloc (.cells #[.int .i64 n9] 3) = v12 at *
          clear hwn
          have sz12 : v11.heap.size ≤ v12.heap.size := hb.size
          have HBh12 := Lib.hid (HBh11.out.trans (hb.mono (by have := HBh11.out.size; omega)))
          clear hb
          refine hK.out _ _ ?_ (fun hHeld => ?_)
          · exact trivial
          clear hK K
          try simp only [List.getElem_toArray, List.getElem_cons_succ, List.getElem_cons_zero, Act.put, List.setIfInBounds_toArray, List.set_cons_zero, List.set_cons_succ]
          refine wpAnyH_ready (rs := [0]) (by kernel_rfl) (by simp) ?_
          refine AllReadyH.cons rfl (fun K hK => ?_) AllReadyH.nil
          clear hHeld
          go_simp
          have ho0 : (v12.alloc (.cells #[] 3)).ownsRow w.heap.size 3 1 (.slice (some ⟨v12.heap.size, 0, none⟩) 0 0) 0 [] := World.ownsRow_made (base := w.heap.size) (e := 3) (size := 1) v12 #[] 0 (by have := HBh12.out.size; omega) (by unfold maxLen; omega) rfl
          have hb := below_alloc v12 (.cells #[] 3)
          have lt_v0 := size_alloc' v12 (.cells #[] 3)
          have hne0 : BN ≠ v12.heap.size := by omega
          obtain ⟨B0, hB0⟩ : ∃ B0 : Nat, B0 = v12.heap.size := ⟨_, rfl⟩
          rw [← hB0] at ho0 ⊢
          have hB0l : B0 ≤ v12.heap.size ∧ v12.heap.size ≤ B0 := by omega
          clear hB0
          generalize hwn : v12.alloc (.cells #[] 3) = v13 at *
          clear hwn
          have sz13 : v12.heap.size ≤ v13.heap.size := hb.size
          replace nx_0 := cell_keep hb nx_0
          have HBh13 := Lib.hid (HBh12.out.trans (hb.mono (by have := HBh12.out.size; omega)))
          clear hb
          have HO0 := Lib.hid ho0
          clear ho0
          have HNE0 := Lib.hid (show ∀ g, (Value.slice (some ⟨B0, 0, none⟩) 0 0).ownBlock = some g → g ≠ BN from fun g e => by (have e2 : B0 = g := by simpa [Value.ownBlock] using e); omega)
          refine hK.out _ _ ?_ (fun hHeld => ?_)
          · exact trivial
          clear hK K
          try simp only [List.getElem_toArray, List.getElem_cons_succ, List.getElem_cons_zero, Act.put, List.setIfInBounds_toArray, List.set_cons_zero, List.set_cons_succ]
          refine wpAnyH_ready (rs := [4]) (by kernel_rfl) (by simp) ?_
          refine AllReadyH.cons rfl (fun K hK => ?_) AllReadyH.nil
          clear hHeld
          refine step_append_any rfl _ _ 22 rfl w.heap.size 3 i0 (.int .i64 0) 1 8 Try.underlying22 hi hz0 hz1 hz2 rfl (by decide) (Value.slice (some ⟨B0, 0, none⟩) 0 0) (0) ([]) (by rfl) HO0.out ⟨gl, 0, none⟩ kk cp (cs.take kk) (by rfl) (by rw [List.length_take]; omega) (fun j u hj => by rw [Go.WideShapes.add_plain, Nat.zero_add]; exact cell_below HBh13.out (HCL.out j u (take_some hj)) hgl) (fun u hu => HONE.out u (List.mem_of_mem_take hu)) (by unfold maxLen; omega) (by omega) (by have := HBh13.out.size; omega) ?_
          intro u1 v14 hown1 hg hat1
          have nx_00 := nx_0
          have hnb : ∀ g, (Value.slice (some ⟨B0, 0, none⟩) 0 0).ownBlock = some g → BN ≠ g := fun g e => Ne.symm (HNE0.out g e)
          have hrow : ∀ g, (Value.slice (some ⟨B0, 0, none⟩) 0 0).ownBlock = some g → w.heap.size ≤ g := fun g e => (HO0.out.lt g e).1
          have sz14 : v13.heap.size ≤ v14.heap.size := hg.size
          replace nx_0 := cell_grow hg nx_0 (fun g e => hnb g e)
          have HBh14 := Lib.hid (HBh13.out.grown hg (by have := HBh13.out.size; omega) (fun g e => hrow g e))
          have HO1 := Lib.hid hown1
          have HNE1 := Lib.hid (show ∀ g, u1.ownBlock = some g → g ≠ BN from fun g e => by (rcases hat1 with e2 | e2); (rw [e2] at e; exact HNE0.out g e); (have h7 : v13.heap.size = g := by (rw [e2] at e; simpa using e)); (have h8 := block_lt_of_cell (a := ⟨BN, 0, none⟩) nx_00); omega)
          clear hown1 hg hat1 hrow hnb
          clear nx_00
          refine hK.out _ _ ?_ (fun hHeld => ?_)
          · exact trivial
          clear hK K
          try simp only [List.getElem_toArray, List.getElem_cons_succ, List.getElem_cons_zero, Act.put, List.setIfInBounds_toArray, List.set_cons_zero, List.set_cons_succ]
          refine wpAnyH_ready (rs := [7]) (by kernel_rfl) (by simp) ?_
          refine AllReadyH.cons rfl (fun K hK => ?_) AllReadyH.nil
          clear hHeld
          refine step_append_any rfl _ _ 22 rfl w.heap.size 3 i0 (.int .i64 0) 1 8 Try.underlying22 hi hz0 hz1 hz2 rfl (by decide) u1 (0 + kk) ([] ++ (cs.take kk)) (by rfl) HO1.out ⟨BN, 0, none⟩ 1 1 [.int .i64 n9] (by rfl) (by rfl) (fun j u hj => by (have h7 : j = 0 := by (have := (List.getElem?_eq_some_iff.1 hj).1; simp at this; exact this)); subst h7; simp at hj; subst hj; simpa [Addr.add] using nx_0) (by simp [Value.oneCell']) (by unfold maxLen; omega) (by omega) (by have := HBh14.out.size; omega) ?_
          intro u2 v15 hown2 hg hat2
          have nx_00 := nx_0
          have hnb : ∀ g, u1.ownBlock = some g → BN ≠ g := fun g e => Ne.symm (HNE1.out g e)
          have hrow : ∀ g, u1.ownBlock = some g → w.heap.size ≤ g := fun g e => (HO1.out.lt g e).1
          have sz15 : v14.heap.size ≤ v15.heap.size := hg.size
          replace nx_0 := cell_grow hg nx_0 (fun g e => hnb g e)
          have HBh15 := Lib.hid (HBh14.out.grown hg (by have := HBh14.out.size; omega) (fun g e => hrow g e))
          have HO2 := Lib.hid hown2
          have HNE2 := Lib.hid (show ∀ g, u2.ownBlock = some g → g ≠ BN from fun g e => by (rcases hat2 with e2 | e2); (rw [e2] at e; exact HNE1.out g e); (have h7 : v14.heap.size = g := by (rw [e2] at e; simpa using e)); (have h8 := block_lt_of_cell (a := ⟨BN, 0, none⟩) nx_00); omega)
          clear hown2 hg hat2 hrow hnb
          clear nx_00
          refine hK.out _ _ ?_ (fun hHeld => ?_)
          · exact trivial
          clear hK K
          try simp only [List.getElem_toArray, List.getElem_cons_succ, List.getElem_cons_zero, Act.put, List.setIfInBounds_toArray, List.set_cons_zero, List.set_cons_succ]
          refine wpAnyH_ready (rs := [11]) (by kernel_rfl) (by simp) ?_
          refine AllReadyH.cons rfl (fun K hK => ?_) AllReadyH.nil
          clear hHeld
          refine step_append_any rfl _ _ 22 rfl w.heap.size 3 i0 (.int .i64 0) 1 8 Try.underlying22 hi hz0 hz1 hz2 rfl (by decide) u2 (0 + kk + 1) ([] ++ (cs.take kk) ++ [.int .i64 n9]) (by rfl) HO2.out ⟨gl, kk, none⟩ (zs.length - kk) (cp - kk) (cs.drop kk) (by rfl) (by rw [List.length_drop]; omega) (fun j u hj => by rw [Go.WideShapes.add_plain]; exact cell_below HBh15.out (HCL.out (kk + j) u (by rw [List.getElem?_drop] at hj; exact hj)) hgl) (fun u hu => HONE.out u (List.mem_of_mem_drop hu)) (by unfold maxLen; omega) (by omega) (by have := HBh15.out.size; omega) ?_
          intro u3 v16 hown3 hg hat3
          have nx_00 := nx_0
          have hnb : ∀ g, u2.ownBlock = some g → BN ≠ g := fun g e => Ne.symm (HNE2.out g e)
          have hrow : ∀ g, u2.ownBlock = some g → w.heap.size ≤ g := fun g e => (HO2.out.lt g e).1
          have sz16 : v15.heap.size ≤ v16.heap.size := hg.size
          replace nx_0 := cell_grow hg nx_0 (fun g e => hnb g e)
          have HBh16 := Lib.hid (HBh15.out.grown hg (by have := HBh15.out.size; omega) (fun g e => hrow g e))
          have HO3 := Lib.hid hown3
          have HNE3 := Lib.hid (show ∀ g, u3.ownBlock = some g → g ≠ BN from fun g e => by (rcases hat3 with e2 | e2); (rw [e2] at e; exact HNE2.out g e); (have h7 : v15.heap.size = g := by (rw [e2] at e; simpa using e)); (have h8 := block_lt_of_cell (a := ⟨BN, 0, none⟩) nx_00); omega)
          clear hown3 hg hat3 hrow hnb
          clear nx_00
          refine hK.out _ _ ?_ (fun hHeld => ?_)
          · exact trivial
          clear hK K
          try simp only [List.getElem_toArray, List.getElem_cons_succ, List.getElem_cons_zero, Act.put, List.setIfInBounds_toArray, List.set_cons_zero, List.set_cons_succ]
          refine wpAnyH_take (i := 12) (v := ?_) rfl (by kernel_rfl) (by kernel_rfl) (by kernel_rfl) (fun _ _ _ h => h) (Or.inl ⟨by rfl, ?_⟩) (by assumption) ?_
          rotate_left
          · intro w9 hSw; (try dsimp only at hSw); go_simp; try with_reducible rfl
          try simp only [List.getElem_toArray, List.getElem_cons_succ, List.getElem_cons_zero, Act.put, List.setIfInBounds_toArray, List.set_cons_zero, List.set_cons_succ]
          refine wpAnyH_done (by kernel_rfl) ?_ _
          refine NoPanic.normal ?_
          clear hHeld
          have hfin : v16.ownsRow w.heap.size 3 1 u3 (zs.length + 1) (cs.take kk ++ .int .i64 n9 :: cs.drop kk) := by
            have h7 := HO3.out
            rw [show 0 + kk + 1 + (zs.length - kk) = zs.length + 1 by omega] at h7
            simpa [List.append_assoc] using h7
          have HF := Lib.hid hfin
          clear hfin
          go_wp2_with fail
          go_ret
          exact HFIN.out u3 v16 HF.out HBh16.out
    · obtain rfl : kk = pl := by omega
      have hkn : kk = zs.length := by omega
      have HFIN := Lib.hid (HFIN0.out (fun h => by omega))
      have k2 : ¬ ((kk : Int) < (zs.length : Int)) := by omega
      have HKN := Lib.hid hkn
      have HBM := Lib.hid (Below.refl w.heap.size w)
      clear hkn HSAME HFIN0
      by_cases hk2 : cp = kk
      · have hk1 : kk ≤ cp := by omega
        have HCK := Lib.hid hk2
        obtain ⟨cq, hcq⟩ : ∃ cq : Nat, cq = cp := ⟨_, rfl⟩
        go_wp2_with fail
        refine wp_region_noPanic ?_
        refine wp_region_held_drew (S := fun w' => True) (by kernel_rfl) ?_ (fun hHeld => ?_)
        · exact trivial
        have hb : Below w.heap.size w w.drew := (Below.refl _ _).drew
        generalize hwn : w.drew = v11 at *
        clear hwn
        have sz11 : w.heap.size ≤ v11.heap.size := hb.size
        have HBh11 := Lib.hid (HBM.out.trans (hb.mono (by have := HBM.out.size; omega)))
        clear hb
        refine wpAnyH_take (i := 1) (v := ?_) rfl (by kernel_rfl) (by kernel_rfl) (by kernel_rfl) (fun _ _ _ h => h) (Or.inl ⟨by rfl, ?_⟩) (by assumption) ?_
        rotate_left
        · intro w9 hSw; (try dsimp only at hSw); go_simp; try with_reducible rfl
        try simp only [List.getElem_toArray, List.getElem_cons_succ, List.getElem_cons_zero, Act.put, List.setIfInBounds_toArray, List.set_cons_zero, List.set_cons_succ]
        refine wpAnyH_take (i := 2) (v := ?_) rfl (by kernel_rfl) (by kernel_rfl) (by kernel_rfl) (fun _ _ _ h => h) (Or.inl ⟨by rfl, ?_⟩) (by assumption) ?_
        rotate_left
        · intro w9 hSw; (try dsimp only at hSw); go_simp; try with_reducible rfl
        try simp only [List.getElem_toArray, List.getElem_cons_succ, List.getElem_cons_zero, Act.put, List.setIfInBounds_toArray, List.set_cons_zero, List.set_cons_succ]
        refine wpAnyH_take (i := 3) (v := ?_) rfl (by kernel_rfl) (by kernel_rfl) (by kernel_rfl) (fun _ _ _ h => h) (Or.inl ⟨by rfl, ?_⟩) (by assumption) ?_
        rotate_left
        · intro w9 hSw; (try dsimp only at hSw); go_simp; try with_reducible rfl
        try simp only [List.getElem_toArray, List.getElem_cons_succ, List.getElem_cons_zero, Act.put, List.setIfInBounds_toArray, List.set_cons_zero, List.set_cons_succ]
        refine wpAnyH_take (i := 5) (v := ?_) rfl (by kernel_rfl) (by kernel_rfl) (by kernel_rfl) (fun _ _ _ h => h) (Or.inl ⟨by rfl, ?_⟩) (by assumption) ?_
        rotate_left
        · intro w9 hSw; (try dsimp only at hSw); go_simp; try with_reducible rfl
        try simp only [List.getElem_toArray, List.getElem_cons_succ, List.getElem_cons_zero, Act.put, List.setIfInBounds_toArray, List.set_cons_zero, List.set_cons_succ]
        refine wpAnyH_take (i := 8) (v := ?_) rfl (by kernel_rfl) (by kernel_rfl) (by kernel_rfl) (fun _ _ _ h => h) (Or.inl ⟨by rfl, ?_⟩) (by assumption) ?_
        rotate_left
        · intro w9 hSw; (try dsimp only at hSw); go_simp; try with_reducible rfl
        try simp only [List.getElem_toArray, List.getElem_cons_succ, List.getElem_cons_zero, Act.put, List.setIfInBounds_toArray, List.set_cons_zero, List.set_cons_succ]
        refine wpAnyH_take (i := 9) (v := ?_) rfl (by kernel_rfl) (by kernel_rfl) (by kernel_rfl) (fun _ _ _ h => h) (Or.inl ⟨by rfl, ?_⟩) (by assumption) ?_
        rotate_left
        · intro w9 hSw; (try dsimp only at hSw); go_simp; try with_reducible rfl
        try simp only [List.getElem_toArray, List.getElem_cons_succ, List.getElem_cons_zero, Act.put, List.setIfInBounds_toArray, List.set_cons_zero, List.set_cons_succ]
        refine wpAnyH_take (i := 10) (v := ?_) rfl (by kernel_rfl) (by kernel_rfl) (by kernel_rfl) (fun _ _ _ h => h) (Or.inl ⟨by rfl, ?_⟩) (by assumption) ?_
        rotate_left
        · intro w9 hSw; (try dsimp only at hSw); go_simp; try with_reducible rfl
        try simp only [List.getElem_toArray, List.getElem_cons_succ, List.getElem_cons_zero, Act.put, List.setIfInBounds_toArray, List.set_cons_zero, List.set_cons_succ]
        refine wpAnyH_ready (rs := [0, 6]) (by kernel_rfl) (by simp) ?_
        refine AllReadyH.cons rfl (fun K hK => ?_) ?_
        · skip
          clear hHeld
          go_simp
          have ho0 : (v11.alloc (.cells #[] 3)).ownsRow w.heap.size 3 1 (.slice (some ⟨v11.heap.size, 0, none⟩) 0 0) 0 [] := World.ownsRow_made (base := w.heap.size) (e := 3) (size := 1) v11 #[] 0 (by have := HBh11.out.size; omega) (by unfold maxLen; omega) rfl
          have hb := below_alloc v11 (.cells #[] 3)
          have lt_v0 := size_alloc' v11 (.cells #[] 3)
          obtain ⟨B0, hB0⟩ : ∃ B0 : Nat, B0 = v11.heap.size := ⟨_, rfl⟩
          rw [← hB0] at ho0 ⊢
          have hB0l : B0 ≤ v11.heap.size ∧ v11.heap.size ≤ B0 := by omega
          clear hB0
          generalize hwn : v11.alloc (.cells #[] 3) = v12 at *
          clear hwn
          have sz12 : v11.heap.size ≤ v12.heap.size := hb.size
          have HBh12 := Lib.hid (HBh11.out.trans (hb.mono (by have := HBh11.out.size; omega)))
          clear hb
          have HO0 := Lib.hid ho0
          clear ho0
          refine hK.out _ _ ?_ (fun hHeld => ?_)
          · exact trivial
          clear hK K
          try simp only [List.getElem_toArray, List.getElem_cons_succ, List.getElem_cons_zero, Act.put, List.setIfInBounds_toArray, List.set_cons_zero, List.set_cons_succ]
          refine wpAnyH_ready (rs := [4, 6]) (by kernel_rfl) (by simp) ?_
          refine AllReadyH.cons rfl (fun K hK => ?_) ?_
          · skip
            clear hHeld
            refine step_append_any rfl _ _ 22 rfl w.heap.size 3 i0 (.int .i64 0) 1 8 Try.underlying22 hi hz0 hz1 hz2 rfl (by decide) (Value.slice (some ⟨B0, 0, none⟩) 0 0) (0) ([]) (by rfl) HO0.out ⟨gl, 0, none⟩ kk kk (cs.take kk) (by rfl) (by rw [List.length_take]; omega) (fun j u hj => by rw [Go.WideShapes.add_plain, Nat.zero_add]; exact cell_below HBh12.out (HCL.out j u (take_some hj)) hgl) (fun u hu => HONE.out u (List.mem_of_mem_take hu)) (by unfold maxLen; omega) (by omega) (by have := HBh12.out.size; omega) ?_
            intro u1 v13 hown1 hg hat1
            have hrow : ∀ g, (Value.slice (some ⟨B0, 0, none⟩) 0 0).ownBlock = some g → w.heap.size ≤ g := fun g e => (HO0.out.lt g e).1
            have sz13 : v12.heap.size ≤ v13.heap.size := hg.size
            have HBh13 := Lib.hid (HBh12.out.grown hg (by have := HBh12.out.size; omega) (fun g e => hrow g e))
            have HO1 := Lib.hid hown1
            clear hown1 hg hat1 hrow
            refine hK.out _ _ ?_ (fun hHeld => ?_)
            · exact trivial
            clear hK K
            try simp only [List.getElem_toArray, List.getElem_cons_succ, List.getElem_cons_zero, Act.put, List.setIfInBounds_toArray, List.set_cons_zero, List.set_cons_succ]
            refine wpAnyH_ready (rs := [6]) (by kernel_rfl) (by simp) ?_
            refine AllReadyH.cons rfl (fun K hK => ?_) AllReadyH.nil
            clear hHeld
            go_simp
            have nx_0 : (v13.alloc (.cells #[.int .i64 n9] 3)).cell? ⟨v13.heap.size, 0, none⟩ = some (.int .i64 n9) := cell_new _ _ _ rfl rfl
            have HNE1 := Lib.hid (show ∀ g, u1.ownBlock = some g → g ≠ v13.heap.size from fun g e => by have := (HO1.out.lt g e).2; omega)
            replace HO1 := Lib.hid (HO1.out.alloc (.cells #[.int .i64 n9] 3))
            have hb := below_alloc v13 (.cells #[.int .i64 n9] 3)
            have lt_nx := size_alloc' v13 (.cells #[.int .i64 n9] 3)
            obtain ⟨BN, hBN⟩ : ∃ BN : Nat, BN = v13.heap.size := ⟨_, rfl⟩
            rw [← hBN] at nx_0 HNE1 ⊢
            have hBNl : BN ≤ v13.heap.size ∧ v13.heap.size ≤ BN := by omega
            clear hBN
            generalize hwn : v13.alloc (.cells #[.int .i64 n9] 3) = v14 at *
            clear hwn
            have sz14 : v13.heap.size ≤ v14.heap.size := hb.size
            have HBh14 := Lib.hid (HBh13.out.trans (hb.mono (by have := HBh13.out.size; omega)))
            clear hb
            refine hK.out _ _ ?_ (fun hHeld => ?_)
            · exact trivial
            clear hK K
            try simp only [List.getElem_toArray, List.getElem_cons_succ, List.getElem_cons_zero, Act.put, List.setIfInBounds_toArray, List.set_cons_zero, List.set_cons_succ]
            refine wpAnyH_ready (rs := [7]) (by kernel_rfl) (by simp) ?_
            refine AllReadyH.cons rfl (fun K hK => ?_) AllReadyH.nil
            clear hHeld
            refine step_append_any rfl _ _ 22 rfl w.heap.size 3 i0 (.int .i64 0) 1 8 Try.underlying22 hi hz0 hz1 hz2 rfl (by decide) u1 (0 + kk) ([] ++ (cs.take kk)) (by rfl) HO1.out ⟨BN, 0, none⟩ 1 1 [.int .i64 n9] (by rfl) (by rfl) (fun j u hj => by (have h7 : j = 0 := by (have := (List.getElem?_eq_some_iff.1 hj).1; simp at this; exact this)); subst h7; simp at hj; subst hj; simpa [Addr.add] using nx_0) (by simp [Value.oneCell']) (by unfold maxLen; omega) (by omega) (by have := HBh14.out.size; omega) ?_
            intro u2 v15 hown2 hg hat2
            have nx_00 := nx_0
            have hnb : ∀ g, u1.ownBlock = some g → BN ≠ g := fun g e => Ne.symm (HNE1.out g e)
            have hrow : ∀ g, u1.ownBlock = some g → w.heap.size ≤ g := fun g e => (HO1.out.lt g e).1
            have sz15 : v14.heap.size ≤ v15.heap.size := hg.size
            replace nx_0 := cell_grow hg nx_0 (fun g e => hnb g e)
            have HBh15 := Lib.hid (HBh14.out.grown hg (by have := HBh14.out.size; omega) (fun g e => hrow g e))
            have HO2 := Lib.hid hown2
            have HNE2 := Lib.hid (show ∀ g, u2.ownBlock = some g → g ≠ BN from fun g e => by (rcases hat2 with e2 | e2); (rw [e2] at e; exact HNE1.out g e); (have h7 : v14.heap.size = g := by (rw [e2] at e; simpa using e)); (have h8 := block_lt_of_cell (a := ⟨BN, 0, none⟩) nx_00); omega)
            clear hown2 hg hat2 hrow hnb
            clear nx_00
            refine hK.out _ _ ?_ (fun hHeld => ?_)
            · exact trivial
            clear hK K
            try simp only [List.getElem_toArray, List.getElem_cons_succ, List.getElem_cons_zero, Act.put, List.setIfInBounds_toArray, List.set_cons_zero, List.set_cons_succ]
            refine wpAnyH_ready (rs := [11]) (by kernel_rfl) (by simp) ?_
            refine AllReadyH.cons rfl (fun K hK => ?_) AllReadyH.nil
            clear hHeld
            refine step_append_any rfl _ _ 22 rfl w.heap.size 3 i0 (.int .i64 0) 1 8 Try.underlying22 hi hz0 hz1 hz2 rfl (by decide) u2 (0 + kk + 1) ([] ++ (cs.take kk) ++ [.int .i64 n9]) (by rfl) HO2.out ⟨gl, 0, none⟩ (zs.length - kk) 0 (cs.drop kk) (by rfl) (by rw [List.length_drop]; omega) (fun j u hj => by have h7 := (List.getElem?_eq_some_iff.1 hj).1; rw [List.length_drop] at h7; have := HKN.out; omega) (fun u hu => HONE.out u (List.mem_of_mem_drop hu)) (by unfold maxLen; omega) (by omega) (by have := HBh15.out.size; omega) ?_
            intro u3 v16 hown3 hg hat3
            have nx_00 := nx_0
            have hnb : ∀ g, u2.ownBlock = some g → BN ≠ g := fun g e => Ne.symm (HNE2.out g e)
            have hrow : ∀ g, u2.ownBlock = some g → w.heap.size ≤ g := fun g e => (HO2.out.lt g e).1
            have sz16 : v15.heap.size ≤ v16.heap.size := hg.size
            replace nx_0 := cell_grow hg nx_0 (fun g e => hnb g e)
            have HBh16 := Lib.hid (HBh15.out.grown hg (by have := HBh15.out.size; omega) (fun g e => hrow g e))
            have HO3 := Lib.hid hown3
            have HNE3 := Lib.hid (show ∀ g, u3.ownBlock = some g → g ≠ BN from fun g e => by (rcases hat3 with e2 | e2); (rw [e2] at e; exact HNE2.out g e); (have h7 : v15.heap.size = g := by (rw [e2] at e; simpa using e)); (have h8 := block_lt_of_cell (a := ⟨BN, 0, none⟩) nx_00); omega)
            clear hown3 hg hat3 hrow hnb
            clear nx_00
            refine hK.out _ _ ?_ (fun hHeld => ?_)
            · exact trivial
            clear hK K
            try simp only [List.getElem_toArray, List.getElem_cons_succ, List.getElem_cons_zero, Act.put, List.setIfInBounds_toArray, List.set_cons_zero, List.set_cons_succ]
            refine wpAnyH_take (i := 12) (v := ?_) rfl (by kernel_rfl) (by kernel_rfl) (by kernel_rfl) (fun _ _ _ h => h) (Or.inl ⟨by rfl, ?_⟩) (by assumption) ?_
            rotate_left
            · intro w9 hSw; (try dsimp only at hSw); go_simp; try with_reducible rfl
            try simp only [List.getElem_toArray, List.getElem_cons_succ, List.getElem_cons_zero, Act.put, List.setIfInBounds_toArray, List.set_cons_zero, List.set_cons_succ]
            refine wpAnyH_done (by kernel_rfl) ?_ _
            refine NoPanic.normal ?_
            clear hHeld
            have hfin : v16.ownsRow w.heap.size 3 1 u3 (zs.length + 1) (cs.take kk ++ .int .i64 n9 :: cs.drop kk) := by
              have h7 := HO3.out
              rw [show 0 + kk + 1 + (zs.length - kk) = zs.length + 1 by omega] at h7
              simpa [List.append_assoc] using h7
            have HF := Lib.hid hfin
            clear hfin
            go_wp2_with fail
            go_ret
            exact HFIN.out u3 v16 HF.out HBh16.out
          refine AllReadyH.cons rfl (fun K hK => ?_) AllReadyH.nil
          clear hHeld
          go_simp
          have nx_0 : (v12.alloc (.cells #[.int .i64 n9] 3)).cell? ⟨v12.heap.size, 0, none⟩ = some (.int .i64 n9) := cell_new _ _ _ rfl rfl
          have HNE0 := Lib.hid (show ∀ g, (Value.slice (some ⟨B0, 0, none⟩) 0 0).ownBlock = some g → g ≠ v12.heap.size from fun g e => by have := (HO0.out.lt g e).2; omega)
          replace HO0 := Lib.hid (HO0.out.alloc (.cells #[.int .i64 n9] 3))
          have hb := below_alloc v12 (.cells #[.int .i64 n9] 3)
          have lt_nx := size_alloc' v12 (.cells #[.int .i64 n9] 3)
          obtain ⟨BN, hBN⟩ : ∃ BN : Nat, BN = v12.heap.size := ⟨_, rfl⟩
          rw [← hBN] at nx_0 HNE0 ⊢
          have hBNl : BN ≤ v12.heap.size ∧ v12.heap.size ≤ BN := by omega
          clear hBN
          generalize hwn : v12.alloc (.cells #[.int .i64 n9] 3) = v13 at *
          clear hwn
          have sz13 : v12.heap.size ≤ v13.heap.size := hb.size
          have HBh13 := Lib.hid (HBh12.out.trans (hb.mono (by have := HBh12.out.size; omega)))
          clear hb
          refine hK.out _ _ ?_ (fun hHeld => ?_)
          · exact trivial
          clear hK K
          try simp only [List.getElem_toArray, List.getElem_cons_succ, List.getElem_cons_zero, Act.put, List.setIfInBounds_toArray, List.set_cons_zero, List.set_cons_succ]
          refine wpAnyH_ready (rs := [4]) (by kernel_rfl) (by simp) ?_
          refine AllReadyH.cons rfl (fun K hK => ?_) AllReadyH.nil
          clear hHeld
          refine step_append_any rfl _ _ 22 rfl w.heap.size 3 i0 (.int .i64 0) 1 8 Try.underlying22 hi hz0 hz1 hz2 rfl (by decide) (Value.slice (some ⟨B0, 0, none⟩) 0 0) (0) ([]) (by rfl) HO0.out ⟨gl, 0, none⟩ kk kk (cs.take kk) (by rfl) (by rw [List.length_take]; omega) (fun j u hj => by rw [Go.WideShapes.add_plain, Nat.zero_add]; exact cell_below HBh13.out (HCL.out j u (take_some hj)) hgl) (fun u hu => HONE.out u (List.mem_of_mem_take hu)) (by unfold maxLen; omega) (by omega) (by have := HBh13.out.size; omega) ?_
          intro u1 v14 hown1 hg hat1
          have nx_00 := nx_0
          have hnb : ∀ g, (Value.slice (some ⟨B0, 0, none⟩) 0 0).ownBlock = some g → BN ≠ g := fun g e => Ne.symm (HNE0.out g e)
          have hrow : ∀ g, (Value.slice (some ⟨B0, 0, none⟩) 0 0).ownBlock = some g → w.heap.size ≤ g := fun g e => (HO0.out.lt g e).1
          have sz14 : v13.heap.size ≤ v14.heap.size := hg.size
          replace nx_0 := cell_grow hg nx_0 (fun g e => hnb g e)
          have HBh14 := Lib.hid (HBh13.out.grown hg (by have := HBh13.out.size; omega) (fun g e => hrow g e))
          have HO1 := Lib.hid hown1
          have HNE1 := Lib.hid (show ∀ g, u1.ownBlock = some g → g ≠ BN from fun g e => by (rcases hat1 with e2 | e2); (rw [e2] at e; exact HNE0.out g e); (have h7 : v13.heap.size = g := by (rw [e2] at e; simpa using e)); (have h8 := block_lt_of_cell (a := ⟨BN, 0, none⟩) nx_00); omega)
          clear hown1 hg hat1 hrow hnb
          clear nx_00
          refine hK.out _ _ ?_ (fun hHeld => ?_)
          · exact trivial
          clear hK K
          try simp only [List.getElem_toArray, List.getElem_cons_succ, List.getElem_cons_zero, Act.put, List.setIfInBounds_toArray, List.set_cons_zero, List.set_cons_succ]
          refine wpAnyH_ready (rs := [7]) (by kernel_rfl) (by simp) ?_
          refine AllReadyH.cons rfl (fun K hK => ?_) AllReadyH.nil
          clear hHeld
          refine step_append_any rfl _ _ 22 rfl w.heap.size 3 i0 (.int .i64 0) 1 8 Try.underlying22 hi hz0 hz1 hz2 rfl (by decide) u1 (0 + kk) ([] ++ (cs.take kk)) (by rfl) HO1.out ⟨BN, 0, none⟩ 1 1 [.int .i64 n9] (by rfl) (by rfl) (fun j u hj => by (have h7 : j = 0 := by (have := (List.getElem?_eq_some_iff.1 hj).1; simp at this; exact this)); subst h7; simp at hj; subst hj; simpa [Addr.add] using nx_0) (by simp [Value.oneCell']) (by unfold maxLen; omega) (by omega) (by have := HBh14.out.size; omega) ?_
          intro u2 v15 hown2 hg hat2
          have nx_00 := nx_0
          have hnb : ∀ g, u1.ownBlock = some g → BN ≠ g := fun g e => Ne.symm (HNE1.out g e)
          have hrow : ∀ g, u1.ownBlock = some g → w.heap.size ≤ g := fun g e => (HO1.out.lt g e).1
          have sz15 : v14.heap.size ≤ v15.heap.size := hg.size
          replace nx_0 := cell_grow hg nx_0 (fun g e => hnb g e)
          have HBh15 := Lib.hid (HBh14.out.grown hg (by have := HBh14.out.size; omega) (fun g e => hrow g e))
          have HO2 := Lib.hid hown2
          have HNE2 := Lib.hid (show ∀ g, u2.ownBlock = some g → g ≠ BN from fun g e => by (rcases hat2 with e2 | e2); (rw [e2] at e; exact HNE1.out g e); (have h7 : v14.heap.size = g := by (rw [e2] at e; simpa using e)); (have h8 := block_lt_of_cell (a := ⟨BN, 0, none⟩) nx_00); omega)
          clear hown2 hg hat2 hrow hnb
          clear nx_00
          refine hK.out _ _ ?_ (fun hHeld => ?_)
          · exact trivial
          clear hK K
          try simp only [List.getElem_toArray, List.getElem_cons_succ, List.getElem_cons_zero, Act.put, List.setIfInBounds_toArray, List.set_cons_zero, List.set_cons_succ]
          refine wpAnyH_ready (rs := [11]) (by kernel_rfl) (by simp) ?_
          refine AllReadyH.cons rfl (fun K hK => ?_) AllReadyH.nil
          clear hHeld
          refine step_append_any rfl _ _ 22 rfl w.heap.size 3 i0 (.int .i64 0) 1 8 Try.underlying22 hi hz0 hz1 hz2 rfl (by decide) u2 (0 + kk + 1) ([] ++ (cs.take kk) ++ [.int .i64 n9]) (by rfl) HO2.out ⟨gl, 0, none⟩ (zs.length - kk) 0 (cs.drop kk) (by rfl) (by rw [List.length_drop]; omega) (fun j u hj => by have h7 := (List.getElem?_eq_some_iff.1 hj).1; rw [List.length_drop] at h7; have := HKN.out; omega) (fun u hu => HONE.out u (List.mem_of_mem_drop hu)) (by unfold maxLen; omega) (by omega) (by have := HBh15.out.size; omega) ?_
          intro u3 v16 hown3 hg hat3
          have nx_00 := nx_0
          have hnb : ∀ g, u2.ownBlock = some g → BN ≠ g := fun g e => Ne.symm (HNE2.out g e)
          have hrow : ∀ g, u2.ownBlock = some g → w.heap.size ≤ g := fun g e => (HO2.out.lt g e).1
          have sz16 : v15.heap.size ≤ v16.heap.size := hg.size
          replace nx_0 := cell_grow hg nx_0 (fun g e => hnb g e)
          have HBh16 := Lib.hid (HBh15.out.grown hg (by have := HBh15.out.size; omega) (fun g e => hrow g e))
          have HO3 := Lib.hid hown3
          have HNE3 := Lib.hid (show ∀ g, u3.ownBlock = some g → g ≠ BN from fun g e => by (rcases hat3 with e2 | e2); (rw [e2] at e; exact HNE2.out g e); (have h7 : v15.heap.size = g := by (rw [e2] at e; simpa using e)); (have h8 := block_lt_of_cell (a := ⟨BN, 0, none⟩) nx_00); omega)
          clear hown3 hg hat3 hrow hnb
          clear nx_00
          refine hK.out _ _ ?_ (fun hHeld => ?_)
          · exact trivial
          clear hK K
          try simp only [List.getElem_toArray, List.getElem_cons_succ, List.getElem_cons_zero, Act.put, List.setIfInBounds_toArray, List.set_cons_zero, List.set_cons_succ]
          refine wpAnyH_take (i := 12) (v := ?_) rfl (by kernel_rfl) (by kernel_rfl) (by kernel_rfl) (fun _ _ _ h => h) (Or.inl ⟨by rfl, ?_⟩) (by assumption) ?_
          rotate_left
          · intro w9 hSw; (try dsimp only at hSw); go_simp; try with_reducible rfl
          try simp only [List.getElem_toArray, List.getElem_cons_succ, List.getElem_cons_zero, Act.put, List.setIfInBounds_toArray, List.set_cons_zero, List.set_cons_succ]
          refine wpAnyH_done (by kernel_rfl) ?_ _
          refine NoPanic.normal ?_
          clear hHeld
          have hfin : v16.ownsRow w.heap.size 3 1 u3 (zs.length + 1) (cs.take kk ++ .int .i64 n9 :: cs.drop kk) := by
            have h7 := HO3.out
            rw [show 0 + kk + 1 + (zs.length - kk) = zs.length + 1 by omega] at h7
            simpa [List.append_assoc] using h7
          have HF := Lib.hid hfin
          clear hfin
          go_wp2_with fail
          go_ret
          exact HFIN.out u3 v16 HF.out HBh16.out
        refine AllReadyH.cons rfl (fun K hK => ?_) AllReadyH.nil
        clear hHeld
        go_simp
        have nx_0 : (v11.alloc (.cells #[.int .i64 n9] 3)).cell? ⟨v11.heap.size, 0, none⟩ = some (.int .i64 n9) := cell_new _ _ _ rfl rfl
        have hb := below_alloc v11 (.cells #[.int .i64 n9] 3)
        have lt_nx := size_alloc' v11 (.cells #[.int .i64 n9] 3)
        obtain ⟨BN, hBN⟩ : ∃ BN : Nat, BN = v11.heap.size := ⟨_, rfl⟩
        rw [← hBN] at nx_0  ⊢
        have hBNl : BN ≤ v11.heap.size ∧ v11.heap.size ≤ BN := by omega
        clear hBN
        generalize hwn : v11.alloc (.cells #[.int .i64 n9] 3) = v12 at *
        clear hwn
        have sz12 : v11.heap.size ≤ v12.heap.size := hb.size
        have HBh12 := Lib.hid (HBh11.out.trans (hb.mono (by have := HBh11.out.size; omega)))
        clear hb
        refine hK.out _ _ ?_ (fun hHeld => ?_)
        · exact trivial
        clear hK K
        try simp only [List.getElem_toArray, List.getElem_cons_succ, List.getElem_cons_zero, Act.put, List.setIfInBounds_toArray, List.set_cons_zero, List.set_cons_succ]
        refine wpAnyH_ready (rs := [0]) (by kernel_rfl) (by simp) ?_
        refine AllReadyH.cons rfl (fun K hK => ?_) AllReadyH.nil
        clear hHeld
        go_simp
        have ho0 : (v12.alloc (.cells #[] 3)).ownsRow w.heap.size 3 1 (.slice (some ⟨v12.heap.size, 0, none⟩) 0 0) 0 [] := World.ownsRow_made (base := w.heap.size) (e := 3) (size := 1) v12 #[] 0 (by have := HBh12.out.size; omega) (by unfold maxLen; omega) rfl
        have hb := below_alloc v12 (.cells #[] 3)
        have lt_v0 := size_alloc' v12 (.cells #[] 3)
        have hne0 : BN ≠ v12.heap.size := by omega
        obtain ⟨B0, hB0⟩ : ∃ B0 : Nat, B0 = v12.heap.size := ⟨_, rfl⟩
        rw [← hB0] at ho0 ⊢
        have hB0l : B0 ≤ v12.heap.size ∧ v12.heap.size ≤ B0 := by omega
        clear hB0
        generalize hwn : v12.alloc (.cells #[] 3) = v13 at *
        clear hwn
        have sz13 : v12.heap.size ≤ v13.heap.size := hb.size
        replace nx_0 := cell_keep hb nx_0
        have HBh13 := Lib.hid (HBh12.out.trans (hb.mono (by have := HBh12.out.size; omega)))
        clear hb
        have HO0 := Lib.hid ho0
        clear ho0
        have HNE0 := Lib.hid (show ∀ g, (Value.slice (some ⟨B0, 0, none⟩) 0 0).ownBlock = some g → g ≠ BN from fun g e => by (have e2 : B0 = g := by simpa [Value.ownBlock] using e); omega)
        refine hK.out _ _ ?_ (fun hHeld => ?_)
        · exact trivial
        clear hK K
        try simp only [List.getElem_toArray, List.getElem_cons_succ, List.getElem_cons_zero, Act.put, List.setIfInBounds_toArray, List.set_cons_zero, List.set_cons_succ]
        refine wpAnyH_ready (rs := [4]) (by kernel_rfl) (by simp) ?_
        refine AllReadyH.cons rfl (fun K hK => ?_) AllReadyH.nil
        clear hHeld
        refine step_append_any rfl _ _ 22 rfl w.heap.size 3 i0 (.int .i64 0) 1 8 Try.underlying22 hi hz0 hz1 hz2 rfl (by decide) (Value.slice (some ⟨B0, 0, none⟩) 0 0) (0) ([]) (by rfl) HO0.out ⟨gl, 0, none⟩ kk kk (cs.take kk) (by rfl) (by rw [List.length_take]; omega) (fun j u hj => by rw [Go.WideShapes.add_plain, Nat.zero_add]; exact cell_below HBh13.out (HCL.out j u (take_some hj)) hgl) (fun u hu => HONE.out u (List.mem_of_mem_take hu)) (by unfold maxLen; omega) (by omega) (by have := HBh13.out.size; omega) ?_
        intro u1 v14 hown1 hg hat1
        have nx_00 := nx_0
        have hnb : ∀ g, (Value.slice (some ⟨B0, 0, none⟩) 0 0).ownBlock = some g → BN ≠ g := fun g e => Ne.symm (HNE0.out g e)
        have hrow : ∀ g, (Value.slice (some ⟨B0, 0, none⟩) 0 0).ownBlock = some g → w.heap.size ≤ g := fun g e => (HO0.out.lt g e).1
        have sz14 : v13.heap.size ≤ v14.heap.size := hg.size
        replace nx_0 := cell_grow hg nx_0 (fun g e => hnb g e)
        have HBh14 := Lib.hid (HBh13.out.grown hg (by have := HBh13.out.size; omega) (fun g e => hrow g e))
        have HO1 := Lib.hid hown1
        have HNE1 := Lib.hid (show ∀ g, u1.ownBlock = some g → g ≠ BN from fun g e => by (rcases hat1 with e2 | e2); (rw [e2] at e; exact HNE0.out g e); (have h7 : v13.heap.size = g := by (rw [e2] at e; simpa using e)); (have h8 := block_lt_of_cell (a := ⟨BN, 0, none⟩) nx_00); omega)
        clear hown1 hg hat1 hrow hnb
        clear nx_00
        refine hK.out _ _ ?_ (fun hHeld => ?_)
        · exact trivial
        clear hK K
        try simp only [List.getElem_toArray, List.getElem_cons_succ, List.getElem_cons_zero, Act.put, List.setIfInBounds_toArray, List.set_cons_zero, List.set_cons_succ]
        refine wpAnyH_ready (rs := [7]) (by kernel_rfl) (by simp) ?_
        refine AllReadyH.cons rfl (fun K hK => ?_) AllReadyH.nil
        clear hHeld
        refine step_append_any rfl _ _ 22 rfl w.heap.size 3 i0 (.int .i64 0) 1 8 Try.underlying22 hi hz0 hz1 hz2 rfl (by decide) u1 (0 + kk) ([] ++ (cs.take kk)) (by rfl) HO1.out ⟨BN, 0, none⟩ 1 1 [.int .i64 n9] (by rfl) (by rfl) (fun j u hj => by (have h7 : j = 0 := by (have := (List.getElem?_eq_some_iff.1 hj).1; simp at this; exact this)); subst h7; simp at hj; subst hj; simpa [Addr.add] using nx_0) (by simp [Value.oneCell']) (by unfold maxLen; omega) (by omega) (by have := HBh14.out.size; omega) ?_
        intro u2 v15 hown2 hg hat2
        have nx_00 := nx_0
        have hnb : ∀ g, u1.ownBlock = some g → BN ≠ g := fun g e => Ne.symm (HNE1.out g e)
        have hrow : ∀ g, u1.ownBlock = some g → w.heap.size ≤ g := fun g e => (HO1.out.lt g e).1
        have sz15 : v14.heap.size ≤ v15.heap.size := hg.size
        replace nx_0 := cell_grow hg nx_0 (fun g e => hnb g e)
        have HBh15 := Lib.hid (HBh14.out.grown hg (by have := HBh14.out.size; omega) (fun g e => hrow g e))
        have HO2 := Lib.hid hown2
        have HNE2 := Lib.hid (show ∀ g, u2.ownBlock = some g → g ≠ BN from fun g e => by (rcases hat2 with e2 | e2); (rw [e2] at e; exact HNE1.out g e); (have h7 : v14.heap.size = g := by (rw [e2] at e; simpa using e)); (have h8 := block_lt_of_cell (a := ⟨BN, 0, none⟩) nx_00); omega)
        clear hown2 hg hat2 hrow hnb
        clear nx_00
        refine hK.out _ _ ?_ (fun hHeld => ?_)
        · exact trivial
        clear hK K
        try simp only [List.getElem_toArray, List.getElem_cons_succ, List.getElem_cons_zero, Act.put, List.setIfInBounds_toArray, List.set_cons_zero, List.set_cons_succ]
        refine wpAnyH_ready (rs := [11]) (by kernel_rfl) (by simp) ?_
        refine AllReadyH.cons rfl (fun K hK => ?_) AllReadyH.nil
        clear hHeld
        refine step_append_any rfl _ _ 22 rfl w.heap.size 3 i0 (.int .i64 0) 1 8 Try.underlying22 hi hz0 hz1 hz2 rfl (by decide) u2 (0 + kk + 1) ([] ++ (cs.take kk) ++ [.int .i64 n9]) (by rfl) HO2.out ⟨gl, 0, none⟩ (zs.length - kk) 0 (cs.drop kk) (by rfl) (by rw [List.length_drop]; omega) (fun j u hj => by have h7 := (List.getElem?_eq_some_iff.1 hj).1; rw [List.length_drop] at h7; have := HKN.out; omega) (fun u hu => HONE.out u (List.mem_of_mem_drop hu)) (by unfold maxLen; omega) (by omega) (by have := HBh15.out.size; omega) ?_
        intro u3 v16 hown3 hg hat3
        have nx_00 := nx_0
        have hnb : ∀ g, u2.ownBlock = some g → BN ≠ g := fun g e => Ne.symm (HNE2.out g e)
        have hrow : ∀ g, u2.ownBlock = some g → w.heap.size ≤ g := fun g e => (HO2.out.lt g e).1
        have sz16 : v15.heap.size ≤ v16.heap.size := hg.size
        replace nx_0 := cell_grow hg nx_0 (fun g e => hnb g e)
        have HBh16 := Lib.hid (HBh15.out.grown hg (by have := HBh15.out.size; omega) (fun g e => hrow g e))
        have HO3 := Lib.hid hown3
        have HNE3 := Lib.hid (show ∀ g, u3.ownBlock = some g → g ≠ BN from fun g e => by (rcases hat3 with e2 | e2); (rw [e2] at e; exact HNE2.out g e); (have h7 : v15.heap.size = g := by (rw [e2] at e; simpa using e)); (have h8 := block_lt_of_cell (a := ⟨BN, 0, none⟩) nx_00); omega)
        clear hown3 hg hat3 hrow hnb
        clear nx_00
        refine hK.out _ _ ?_ (fun hHeld => ?_)
        · exact trivial
        clear hK K
        try simp only [List.getElem_toArray, List.getElem_cons_succ, List.getElem_cons_zero, Act.put, List.setIfInBounds_toArray, List.set_cons_zero, List.set_cons_succ]
        refine wpAnyH_take (i := 12) (v := ?_) rfl (by kernel_rfl) (by kernel_rfl) (by kernel_rfl) (fun _ _ _ h => h) (Or.inl ⟨by rfl, ?_⟩) (by assumption) ?_
        rotate_left
        · intro w9 hSw; (try dsimp only at hSw); go_simp; try with_reducible rfl
        try simp only [List.getElem_toArray, List.getElem_cons_succ, List.getElem_cons_zero, Act.put, List.setIfInBounds_toArray, List.set_cons_zero, List.set_cons_succ]
        refine wpAnyH_done (by kernel_rfl) ?_ _
        refine NoPanic.normal ?_
        clear hHeld
        have hfin : v16.ownsRow w.heap.size 3 1 u3 (zs.length + 1) (cs.take kk ++ .int .i64 n9 :: cs.drop kk) := by
          have h7 := HO3.out
          rw [show 0 + kk + 1 + (zs.length - kk) = zs.length + 1 by omega] at h7
          simpa [List.append_assoc] using h7
        have HF := Lib.hid hfin
        clear hfin
        go_wp2_with fail
        go_ret
        exact HFIN.out u3 v16 HF.out HBh16.out
      · have hk1 : kk ≤ cp := by omega
        go_wp2_with fail
        refine wp_region_noPanic ?_
        refine wp_region_held_drew (S := fun w' => True) (by kernel_rfl) ?_ (fun hHeld => ?_)
        · exact trivial
        have hb : Below w.heap.size w w.drew := (Below.refl _ _).drew
        generalize hwn : w.drew = v11 at *
        clear hwn
        have sz11 : w.heap.size ≤ v11.heap.size := hb.size
        have HBh11 := Lib.hid (HBM.out.trans (hb.mono (by have := HBM.out.size; omega)))
        clear hb
        refine wpAnyH_take (i := 1) (v := ?_) rfl (by kernel_rfl) (by kernel_rfl) (by kernel_rfl) (fun _ _ _ h => h) (Or.inl ⟨by rfl, ?_⟩) (by assumption) ?_
        rotate_left
        · intro w9 hSw; (try dsimp only at hSw); go_simp; try with_reducible rfl
        try simp only [List.getElem_toArray, List.getElem_cons_succ, List.getElem_cons_zero, Act.put, List.setIfInBounds_toArray, List.set_cons_zero, List.set_cons_succ]
        refine wpAnyH_take (i := 2) (v := ?_) rfl (by kernel_rfl) (by kernel_rfl) (by kernel_rfl) (fun _ _ _ h => h) (Or.inl ⟨by rfl, ?_⟩) (by assumption) ?_
        rotate_left
        · intro w9 hSw; (try dsimp only at hSw); go_simp; try with_reducible rfl
        try simp only [List.getElem_toArray, List.getElem_cons_succ, List.getElem_cons_zero, Act.put, List.setIfInBounds_toArray, List.set_cons_zero, List.set_cons_succ]
        refine wpAnyH_take (i := 3) (v := ?_) rfl (by kernel_rfl) (by kernel_rfl) (by kernel_rfl) (fun _ _ _ h => h) (Or.inl ⟨by rfl, ?_⟩) (by assumption) ?_
        rotate_left
        · intro w9 hSw; (try dsimp only at hSw); go_simp; try with_reducible rfl
        try simp only [List.getElem_toArray, List.getElem_cons_succ, List.getElem_cons_zero, Act.put, List.setIfInBounds_toArray, List.set_cons_zero, List.set_cons_succ]
        refine wpAnyH_take (i := 5) (v := ?_) rfl (by kernel_rfl) (by kernel_rfl) (by kernel_rfl) (fun _ _ _ h => h) (Or.inl ⟨by rfl, ?_⟩) (by assumption) ?_
        rotate_left
        · intro w9 hSw; (try dsimp only at hSw); go_simp; try with_reducible rfl
        try simp only [List.getElem_toArray, List.getElem_cons_succ, List.getElem_cons_zero, Act.put, List.setIfInBounds_toArray, List.set_cons_zero, List.set_cons_succ]
        refine wpAnyH_take (i := 8) (v := ?_) rfl (by kernel_rfl) (by kernel_rfl) (by kernel_rfl) (fun _ _ _ h => h) (Or.inl ⟨by rfl, ?_⟩) (by assumption) ?_
        rotate_left
        · intro w9 hSw; (try dsimp only at hSw); go_simp; try with_reducible rfl
        try simp only [List.getElem_toArray, List.getElem_cons_succ, List.getElem_cons_zero, Act.put, List.setIfInBounds_toArray, List.set_cons_zero, List.set_cons_succ]
        refine wpAnyH_take (i := 9) (v := ?_) rfl (by kernel_rfl) (by kernel_rfl) (by kernel_rfl) (fun _ _ _ h => h) (Or.inl ⟨by rfl, ?_⟩) (by assumption) ?_
        rotate_left
        · intro w9 hSw; (try dsimp only at hSw); go_simp; try with_reducible rfl
        try simp only [List.getElem_toArray, List.getElem_cons_succ, List.getElem_cons_zero, Act.put, List.setIfInBounds_toArray, List.set_cons_zero, List.set_cons_succ]
        refine wpAnyH_take (i := 10) (v := ?_) rfl (by kernel_rfl) (by kernel_rfl) (by kernel_rfl) (fun _ _ _ h => h) (Or.inl ⟨by rfl, ?_⟩) (by assumption) ?_
        rotate_left
        · intro w9 hSw; (try dsimp only at hSw); go_simp; try with_reducible rfl
        try simp only [List.getElem_toArray, List.getElem_cons_succ, List.getElem_cons_zero, Act.put, List.setIfInBounds_toArray, List.set_cons_zero, List.set_cons_succ]
        refine wpAnyH_ready (rs := [0, 6]) (by kernel_rfl) (by simp) ?_
        refine AllReadyH.cons rfl (fun K hK => ?_) ?_
        · skip
          clear hHeld
          go_simp
          have ho0 : (v11.alloc (.cells #[] 3)).ownsRow w.heap.size 3 1 (.slice (some ⟨v11.heap.size, 0, none⟩) 0 0) 0 [] := World.ownsRow_made (base := w.heap.size) (e := 3) (size := 1) v11 #[] 0 (by have := HBh11.out.size; omega) (by unfold maxLen; omega) rfl
          have hb := below_alloc v11 (.cells #[] 3)
          have lt_v0 := size_alloc' v11 (.cells #[] 3)
          obtain ⟨B0, hB0⟩ : ∃ B0 : Nat, B0 = v11.heap.size := ⟨_, rfl⟩
          rw [← hB0] at ho0 ⊢
          have hB0l : B0 ≤ v11.heap.size ∧ v11.heap.size ≤ B0 := by omega
          clear hB0
          generalize hwn : v11.alloc (.cells #[] 3) = v12 at *
          clear hwn
          have sz12 : v11.heap.size ≤ v12.heap.size := hb.size
          have HBh12 := Lib.hid (HBh11.out.trans (hb.mono (by have := HBh11.out.size; omega)))
          clear hb
          have HO0 := Lib.hid ho0
          clear ho0
          refine hK.out _ _ ?_ (fun hHeld => ?_)
          · exact trivial
          clear hK K
          try simp only [List.getElem_toArray, List.getElem_cons_succ, List.getElem_cons_zero, Act.put, List.setIfInBounds_toArray, List.set_cons_zero, List.set_cons_succ]
          refine wpAnyH_ready (rs := [4, 6]) (by kernel_rfl) (by simp) ?_
          refine AllReadyH.cons rfl (fun K hK => ?_) ?_
          · skip
            clear hHeld
            refine step_append_any rfl _ _ 22 rfl w.heap.size 3 i0 (.int .i64 0) 1 8 Try.underlying22 hi hz0 hz1 hz2 rfl (by decide) (Value.slice (some ⟨B0, 0, none⟩) 0 0) (0) ([]) (by rfl) HO0.out ⟨gl, 0, none⟩ kk cp (cs.take kk) (by rfl) (by rw [List.length_take]; omega) (fun j u hj => by rw [Go.WideShapes.add_plain, Nat.zero_add]; exact cell_below HBh12.out (HCL.out j u (take_some hj)) hgl) (fun u hu => HONE.out u (List.mem_of_mem_take hu)) (by unfold maxLen; omega) (by omega) (by have := HBh12.out.size; omega) ?_
            intro u1 v13 hown1 hg hat1
            have hrow : ∀ g, (Value.slice (some ⟨B0, 0, none⟩) 0 0).ownBlock = some g → w.heap.size ≤ g := fun g e => (HO0.out.lt g e).1
            have sz13 : v12.heap.size ≤ v13.heap.size := hg.size
            have HBh13 := Lib.hid (HBh12.out.grown hg (by have := HBh12.out.size; omega) (fun g e => hrow g e))
            have HO1 := Lib.hid hown1
            clear hown1 hg hat1 hrow
            refine hK.out _ _ ?_ (fun hHeld => ?_)
            · exact trivial
            clear hK K
            try simp only [List.getElem_toArray, List.getElem_cons_succ, List.getElem_cons_zero, Act.put, List.setIfInBounds_toArray, List.set_cons_zero, List.set_cons_succ]
            refine wpAnyH_ready (rs := [6]) (by kernel_rfl) (by simp) ?_
            refine AllReadyH.cons rfl (fun K hK => ?_) AllReadyH.nil
            clear hHeld
            go_simp
            have nx_0 : (v13.alloc (.cells #[.int .i64 n9] 3)).cell? ⟨v13.heap.size, 0, none⟩ = some (.int .i64 n9) := cell_new _ _ _ rfl rfl
            have HNE1 := Lib.hid (show ∀ g, u1.ownBlock = some g → g ≠ v13.heap.size from fun g e => by have := (HO1.out.lt g e).2; omega)
            replace HO1 := Lib.hid (HO1.out.alloc (.cells #[.int .i64 n9] 3))
            have hb := below_alloc v13 (.cells #[.int .i64 n9] 3)
            have lt_nx := size_alloc' v13 (.cells #[.int .i64 n9] 3)
            obtain ⟨BN, hBN⟩ : ∃ BN : Nat, BN = v13.heap.size := ⟨_, rfl⟩
            rw [← hBN] at nx_0 HNE1 ⊢
            have hBNl : BN ≤ v13.heap.size ∧ v13.heap.size ≤ BN := by omega
            clear hBN
            generalize hwn : v13.alloc (.cells #[.int .i64 n9] 3) = v14 at *
            clear hwn
            have sz14 : v13.heap.size ≤ v14.heap.size := hb.size
            have HBh14 := Lib.hid (HBh13.out.trans (hb.mono (by have := HBh13.out.size; omega)))
            clear hb
            refine hK.out _ _ ?_ (fun hHeld => ?_)
            · exact trivial
            clear hK K
            try simp only [List.getElem_toArray, List.getElem_cons_succ, List.getElem_cons_zero, Act.put, List.setIfInBounds_toArray, List.set_cons_zero, List.set_cons_succ]
            refine wpAnyH_ready (rs := [7]) (by kernel_rfl) (by simp) ?_
            refine AllReadyH.cons rfl (fun K hK => ?_) AllReadyH.nil
            clear hHeld
            refine step_append_any rfl _ _ 22 rfl w.heap.size 3 i0 (.int .i64 0) 1 8 Try.underlying22 hi hz0 hz1 hz2 rfl (by decide) u1 (0 + kk) ([] ++ (cs.take kk)) (by rfl) HO1.out ⟨BN, 0, none⟩ 1 1 [.int .i64 n9] (by rfl) (by rfl) (fun j u hj => by (have h7 : j = 0 := by (have := (List.getElem?_eq_some_iff.1 hj).1; simp at this; exact this)); subst h7; simp at hj; subst hj; simpa [Addr.add] using nx_0) (by simp [Value.oneCell']) (by unfold maxLen; omega) (by omega) (by have := HBh14.out.size; omega) ?_
            intro u2 v15 hown2 hg hat2
            have nx_00 := nx_0
            have hnb : ∀ g, u1.ownBlock = some g → BN ≠ g := fun g e => Ne.symm (HNE1.out g e)
            have hrow : ∀ g, u1.ownBlock = some g → w.heap.size ≤ g := fun g e => (HO1.out.lt g e).1
            have sz15 : v14.heap.size ≤ v15.heap.size := hg.size
            replace nx_0 := cell_grow hg nx_0 (fun g e => hnb g e)
            have HBh15 := Lib.hid (HBh14.out.grown hg (by have := HBh14.out.size; omega) (fun g e => hrow g e))
            have HO2 := Lib.hid hown2
            have HNE2 := Lib.hid (show ∀ g, u2.ownBlock = some g → g ≠ BN from fun g e => by (rcases hat2 with e2 | e2); (rw [e2] at e; exact HNE1.out g e); (have h7 : v14.heap.size = g := by (rw [e2] at e; simpa using e)); (have h8 := block_lt_of_cell (a := ⟨BN, 0, none⟩) nx_00); omega)
            clear hown2 hg hat2 hrow hnb
            clear nx_00
            refine hK.out _ _ ?_ (fun hHeld => ?_)
            · exact trivial
            clear hK K
            try simp only [List.getElem_toArray, List.getElem_cons_succ, List.getElem_cons_zero, Act.put, List.setIfInBounds_toArray, List.set_cons_zero, List.set_cons_succ]
            refine wpAnyH_ready (rs := [11]) (by kernel_rfl) (by simp) ?_
            refine AllReadyH.cons rfl (fun K hK => ?_) AllReadyH.nil
            clear hHeld
            refine step_append_any rfl _ _ 22 rfl w.heap.size 3 i0 (.int .i64 0) 1 8 Try.underlying22 hi hz0 hz1 hz2 rfl (by decide) u2 (0 + kk + 1) ([] ++ (cs.take kk) ++ [.int .i64 n9]) (by rfl) HO2.out ⟨gl, kk, none⟩ (zs.length - kk) (cp - kk) (cs.drop kk) (by rfl) (by rw [List.length_drop]; omega) (fun j u hj => by rw [Go.WideShapes.add_plain]; exact cell_below HBh15.out (HCL.out (kk + j) u (by rw [List.getElem?_drop] at hj; exact hj)) hgl) (fun u hu => HONE.out u (List.mem_of_mem_drop hu)) (by unfold maxLen; omega) (by omega) (by have := HBh15.out.size; omega) ?_
            intro u3 v16 hown3 hg hat3
            have nx_00 := nx_0
            have hnb : ∀ g, u2.ownBlock = some g → BN ≠ g := fun g e => Ne.symm (HNE2.out g e)
            have hrow : ∀ g, u2.ownBlock = some g → w.heap.size ≤ g := fun g e => (HO2.out.lt g e).1
            have sz16 : v15.heap.size ≤ v16.heap.size := hg.size
            replace nx_0 := cell_grow hg nx_0 (fun g e => hnb g e)
            have HBh16 := Lib.hid (HBh15.out.grown hg (by have := HBh15.out.size; omega) (fun g e => hrow g e))
            have HO3 := Lib.hid hown3
            have HNE3 := Lib.hid (show ∀ g, u3.ownBlock = some g → g ≠ BN from fun g e => by (rcases hat3 with e2 | e2); (rw [e2] at e; exact HNE2.out g e); (have h7 : v15.heap.size = g := by (rw [e2] at e; simpa using e)); (have h8 := block_lt_of_cell (a := ⟨BN, 0, none⟩) nx_00); omega)
            clear hown3 hg hat3 hrow hnb
            clear nx_00
            refine hK.out _ _ ?_ (fun hHeld => ?_)
            · exact trivial
            clear hK K
            try simp only [List.getElem_toArray, List.getElem_cons_succ, List.getElem_cons_zero, Act.put, List.setIfInBounds_toArray, List.set_cons_zero, List.set_cons_succ]
            refine wpAnyH_take (i := 12) (v := ?_) rfl (by kernel_rfl) (by kernel_rfl) (by kernel_rfl) (fun _ _ _ h => h) (Or.inl ⟨by rfl, ?_⟩) (by assumption) ?_
            rotate_left
            · intro w9 hSw; (try dsimp only at hSw); go_simp; try with_reducible rfl
            try simp only [List.getElem_toArray, List.getElem_cons_succ, List.getElem_cons_zero, Act.put, List.setIfInBounds_toArray, List.set_cons_zero, List.set_cons_succ]
            refine wpAnyH_done (by kernel_rfl) ?_ _
            refine NoPanic.normal ?_
            clear hHeld
            have hfin : v16.ownsRow w.heap.size 3 1 u3 (zs.length + 1) (cs.take kk ++ .int .i64 n9 :: cs.drop kk) := by
              have h7 := HO3.out
              rw [show 0 + kk + 1 + (zs.length - kk) = zs.length + 1 by omega] at h7
              simpa [List.append_assoc] using h7
            have HF := Lib.hid hfin
            clear hfin
            go_wp2_with fail
            go_ret
            exact HFIN.out u3 v16 HF.out HBh16.out
          refine AllReadyH.cons rfl (fun K hK => ?_) AllReadyH.nil
          clear hHeld
          go_simp
          have nx_0 : (v12.alloc (.cells #[.int .i64 n9] 3)).cell? ⟨v12.heap.size, 0, none⟩ = some (.int .i64 n9) := cell_new _ _ _ rfl rfl
          have HNE0 := Lib.hid (show ∀ g, (Value.slice (some ⟨B0, 0, none⟩) 0 0).ownBlock = some g → g ≠ v12.heap.size from fun g e => by have := (HO0.out.lt g e).2; omega)
          replace HO0 := Lib.hid (HO0.out.alloc (.cells #[.int .i64 n9] 3))
          have hb := below_alloc v12 (.cells #[.int .i64 n9] 3)
          have lt_nx := size_alloc' v12 (.cells #[.int .i64 n9] 3)
          obtain ⟨BN, hBN⟩ : ∃ BN : Nat, BN = v12.heap.size := ⟨_, rfl⟩
          rw [← hBN] at nx_0 HNE0 ⊢
          have hBNl : BN ≤ v12.heap.size ∧ v12.heap.size ≤ BN := by omega
          clear hBN
          generalize hwn : v12.alloc (.cells #[.int .i64 n9] 3) = v13 at *
          clear hwn
          have sz13 : v12.heap.size ≤ v13.heap.size := hb.size
          have HBh13 := Lib.hid (HBh12.out.trans (hb.mono (by have := HBh12.out.size; omega)))
          clear hb
          refine hK.out _ _ ?_ (fun hHeld => ?_)
          · exact trivial
          clear hK K
          try simp only [List.getElem_toArray, List.getElem_cons_succ, List.getElem_cons_zero, Act.put, List.setIfInBounds_toArray, List.set_cons_zero, List.set_cons_succ]
          refine wpAnyH_ready (rs := [4]) (by kernel_rfl) (by simp) ?_
          refine AllReadyH.cons rfl (fun K hK => ?_) AllReadyH.nil
          clear hHeld
          refine step_append_any rfl _ _ 22 rfl w.heap.size 3 i0 (.int .i64 0) 1 8 Try.underlying22 hi hz0 hz1 hz2 rfl (by decide) (Value.slice (some ⟨B0, 0, none⟩) 0 0) (0) ([]) (by rfl) HO0.out ⟨gl, 0, none⟩ kk cp (cs.take kk) (by rfl) (by rw [List.length_take]; omega) (fun j u hj => by rw [Go.WideShapes.add_plain, Nat.zero_add]; exact cell_below HBh13.out (HCL.out j u (take_some hj)) hgl) (fun u hu => HONE.out u (List.mem_of_mem_take hu)) (by unfold maxLen; omega) (by omega) (by have := HBh13.out.size; omega) ?_
          intro u1 v14 hown1 hg hat1
          have nx_00 := nx_0
          have hnb : ∀ g, (Value.slice (some ⟨B0, 0, none⟩) 0 0).ownBlock = some g → BN ≠ g := fun g e => Ne.symm (HNE0.out g e)
          have hrow : ∀ g, (Value.slice (some ⟨B0, 0, none⟩) 0 0).ownBlock = some g → w.heap.size ≤ g := fun g e => (HO0.out.lt g e).1
          have sz14 : v13.heap.size ≤ v14.heap.size := hg.size
          replace nx_0 := cell_grow hg nx_0 (fun g e => hnb g e)
          have HBh14 := Lib.hid (HBh13.out.grown hg (by have := HBh13.out.size; omega) (fun g e => hrow g e))
          have HO1 := Lib.hid hown1
          have HNE1 := Lib.hid (show ∀ g, u1.ownBlock = some g → g ≠ BN from fun g e => by (rcases hat1 with e2 | e2); (rw [e2] at e; exact HNE0.out g e); (have h7 : v13.heap.size = g := by (rw [e2] at e; simpa using e)); (have h8 := block_lt_of_cell (a := ⟨BN, 0, none⟩) nx_00); omega)
          clear hown1 hg hat1 hrow hnb
          clear nx_00
          refine hK.out _ _ ?_ (fun hHeld => ?_)
          · exact trivial
          clear hK K
          try simp only [List.getElem_toArray, List.getElem_cons_succ, List.getElem_cons_zero, Act.put, List.setIfInBounds_toArray, List.set_cons_zero, List.set_cons_succ]
          refine wpAnyH_ready (rs := [7]) (by kernel_rfl) (by simp) ?_
          refine AllReadyH.cons rfl (fun K hK => ?_) AllReadyH.nil
          clear hHeld
          refine step_append_any rfl _ _ 22 rfl w.heap.size 3 i0 (.int .i64 0) 1 8 Try.underlying22 hi hz0 hz1 hz2 rfl (by decide) u1 (0 + kk) ([] ++ (cs.take kk)) (by rfl) HO1.out ⟨BN, 0, none⟩ 1 1 [.int .i64 n9] (by rfl) (by rfl) (fun j u hj => by (have h7 : j = 0 := by (have := (List.getElem?_eq_some_iff.1 hj).1; simp at this; exact this)); subst h7; simp at hj; subst hj; simpa [Addr.add] using nx_0) (by simp [Value.oneCell']) (by unfold maxLen; omega) (by omega) (by have := HBh14.out.size; omega) ?_
          intro u2 v15 hown2 hg hat2
          have nx_00 := nx_0
          have hnb : ∀ g, u1.ownBlock = some g → BN ≠ g := fun g e => Ne.symm (HNE1.out g e)
          have hrow : ∀ g, u1.ownBlock = some g → w.heap.size ≤ g := fun g e => (HO1.out.lt g e).1
          have sz15 : v14.heap.size ≤ v15.heap.size := hg.size
          replace nx_0 := cell_grow hg nx_0 (fun g e => hnb g e)
          have HBh15 := Lib.hid (HBh14.out.grown hg (by have := HBh14.out.size; omega) (fun g e => hrow g e))
          have HO2 := Lib.hid hown2
          have HNE2 := Lib.hid (show ∀ g, u2.ownBlock = some g → g ≠ BN from fun g e => by (rcases hat2 with e2 | e2); (rw [e2] at e; exact HNE1.out g e); (have h7 : v14.heap.size = g := by (rw [e2] at e; simpa using e)); (have h8 := block_lt_of_cell (a := ⟨BN, 0, none⟩) nx_00); omega)
          clear hown2 hg hat2 hrow hnb
          clear nx_00
          refine hK.out _ _ ?_ (fun hHeld => ?_)
          · exact trivial
          clear hK K
          try simp only [List.getElem_toArray, List.getElem_cons_succ, List.getElem_cons_zero, Act.put, List.setIfInBounds_toArray, List.set_cons_zero, List.set_cons_succ]
          refine wpAnyH_ready (rs := [11]) (by kernel_rfl) (by simp) ?_
          refine AllReadyH.cons rfl (fun K hK => ?_) AllReadyH.nil
          clear hHeld
          refine step_append_any rfl _ _ 22 rfl w.heap.size 3 i0 (.int .i64 0) 1 8 Try.underlying22 hi hz0 hz1 hz2 rfl (by decide) u2 (0 + kk + 1) ([] ++ (cs.take kk) ++ [.int .i64 n9]) (by rfl) HO2.out ⟨gl, kk, none⟩ (zs.length - kk) (cp - kk) (cs.drop kk) (by rfl) (by rw [List.length_drop]; omega) (fun j u hj => by rw [Go.WideShapes.add_plain]; exact cell_below HBh15.out (HCL.out (kk + j) u (by rw [List.getElem?_drop] at hj; exact hj)) hgl) (fun u hu => HONE.out u (List.mem_of_mem_drop hu)) (by unfold maxLen; omega) (by omega) (by have := HBh15.out.size; omega) ?_
          intro u3 v16 hown3 hg hat3
          have nx_00 := nx_0
          have hnb : ∀ g, u2.ownBlock = some g → BN ≠ g := fun g e => Ne.symm (HNE2.out g e)
          have hrow : ∀ g, u2.ownBlock = some g → w.heap.size ≤ g := fun g e => (HO2.out.lt g e).1
          have sz16 : v15.heap.size ≤ v16.heap.size := hg.size
          replace nx_0 := cell_grow hg nx_0 (fun g e => hnb g e)
          have HBh16 := Lib.hid (HBh15.out.grown hg (by have := HBh15.out.size; omega) (fun g e => hrow g e))
          have HO3 := Lib.hid hown3
          have HNE3 := Lib.hid (show ∀ g, u3.ownBlock = some g → g ≠ BN from fun g e => by (rcases hat3 with e2 | e2); (rw [e2] at e; exact HNE2.out g e); (have h7 : v15.heap.size = g := by (rw [e2] at e; simpa using e)); (have h8 := block_lt_of_cell (a := ⟨BN, 0, none⟩) nx_00); omega)
          clear hown3 hg hat3 hrow hnb
          clear nx_00
          refine hK.out _ _ ?_ (fun hHeld => ?_)
          · exact trivial
          clear hK K
          try simp only [List.getElem_toArray, List.getElem_cons_succ, List.getElem_cons_zero, Act.put, List.setIfInBounds_toArray, List.set_cons_zero, List.set_cons_succ]
          refine wpAnyH_take (i := 12) (v := ?_) rfl (by kernel_rfl) (by kernel_rfl) (by kernel_rfl) (fun _ _ _ h => h) (Or.inl ⟨by rfl, ?_⟩) (by assumption) ?_
          rotate_left
          · intro w9 hSw; (try dsimp only at hSw); go_simp; try with_reducible rfl
          try simp only [List.getElem_toArray, List.getElem_cons_succ, List.getElem_cons_zero, Act.put, List.setIfInBounds_toArray, List.set_cons_zero, List.set_cons_succ]
          refine wpAnyH_done (by kernel_rfl) ?_ _
          refine NoPanic.normal ?_
          clear hHeld
          have hfin : v16.ownsRow w.heap.size 3 1 u3 (zs.length + 1) (cs.take kk ++ .int .i64 n9 :: cs.drop kk) := by
            have h7 := HO3.out
            rw [show 0 + kk + 1 + (zs.length - kk) = zs.length + 1 by omega] at h7
            simpa [List.append_assoc] using h7
          have HF := Lib.hid hfin
          clear hfin
          go_wp2_with fail
          go_ret
          exact HFIN.out u3 v16 HF.out HBh16.out
        refine AllReadyH.cons rfl (fun K hK => ?_) AllReadyH.nil
        clear hHeld
        go_simp
        have nx_0 : (v11.alloc (.cells #[.int .i64 n9] 3)).cell? ⟨v11.heap.size, 0, none⟩ = some (.int .i64 n9) := cell_new _ _ _ rfl rfl
        have hb := below_alloc v11 (.cells #[.int .i64 n9] 3)
        have lt_nx := size_alloc' v11 (.cells #[.int .i64 n9] 3)
        obtain ⟨BN, hBN⟩ : ∃ BN : Nat, BN = v11.heap.size := ⟨_, rfl⟩
        rw [← hBN] at nx_0  ⊢
        have hBNl : BN ≤ v11.heap.size ∧ v11.heap.size ≤ BN := by omega
        clear hBN
        generalize hwn : v11.alloc (.cells #[.int .i64 n9] 3) = v12 at *
        clear hwn
        have sz12 : v11.heap.size ≤ v12.heap.size := hb.size
        have HBh12 := Lib.hid (HBh11.out.trans (hb.mono (by have := HBh11.out.size; omega)))
        clear hb
        refine hK.out _ _ ?_ (fun hHeld => ?_)
        · exact trivial
        clear hK K
        try simp only [List.getElem_toArray, List.getElem_cons_succ, List.getElem_cons_zero, Act.put, List.setIfInBounds_toArray, List.set_cons_zero, List.set_cons_succ]
        refine wpAnyH_ready (rs := [0]) (by kernel_rfl) (by simp) ?_
        refine AllReadyH.cons rfl (fun K hK => ?_) AllReadyH.nil
        clear hHeld
        go_simp
        have ho0 : (v12.alloc (.cells #[] 3)).ownsRow w.heap.size 3 1 (.slice (some ⟨v12.heap.size, 0, none⟩) 0 0) 0 [] := World.ownsRow_made (base := w.heap.size) (e := 3) (size := 1) v12 #[] 0 (by have := HBh12.out.size; omega) (by unfold maxLen; omega) rfl
        have hb := below_alloc v12 (.cells #[] 3)
        have lt_v0 := size_alloc' v12 (.cells #[] 3)
        have hne0 : BN ≠ v12.heap.size := by omega
        obtain ⟨B0, hB0⟩ : ∃ B0 : Nat, B0 = v12.heap.size := ⟨_, rfl⟩
        rw [← hB0] at ho0 ⊢
        have hB0l : B0 ≤ v12.heap.size ∧ v12.heap.size ≤ B0 := by omega
        clear hB0
        generalize hwn : v12.alloc (.cells #[] 3) = v13 at *
        clear hwn
        have sz13 : v12.heap.size ≤ v13.heap.size := hb.size
        replace nx_0 := cell_keep hb nx_0
        have HBh13 := Lib.hid (HBh12.out.trans (hb.mono (by have := HBh12.out.size; omega)))
        clear hb
        have HO0 := Lib.hid ho0
        clear ho0
        have HNE0 := Lib.hid (show ∀ g, (Value.slice (some ⟨B0, 0, none⟩) 0 0).ownBlock = some g → g ≠ BN from fun g e => by (have e2 : B0 = g := by simpa [Value.ownBlock] using e); omega)
        refine hK.out _ _ ?_ (fun hHeld => ?_)
        · exact trivial
        clear hK K
        try simp only [List.getElem_toArray, List.getElem_cons_succ, List.getElem_cons_zero, Act.put, List.setIfInBounds_toArray, List.set_cons_zero, List.set_cons_succ]
        refine wpAnyH_ready (rs := [4]) (by kernel_rfl) (by simp) ?_
        refine AllReadyH.cons rfl (fun K hK => ?_) AllReadyH.nil
        clear hHeld
        refine step_append_any rfl _ _ 22 rfl w.heap.size 3 i0 (.int .i64 0) 1 8 Try.underlying22 hi hz0 hz1 hz2 rfl (by decide) (Value.slice (some ⟨B0, 0, none⟩) 0 0) (0) ([]) (by rfl) HO0.out ⟨gl, 0, none⟩ kk cp (cs.take kk) (by rfl) (by rw [List.length_take]; omega) (fun j u hj => by rw [Go.WideShapes.add_plain, Nat.zero_add]; exact cell_below HBh13.out (HCL.out j u (take_some hj)) hgl) (fun u hu => HONE.out u (List.mem_of_mem_take hu)) (by unfold maxLen; omega) (by omega) (by have := HBh13.out.size; omega) ?_
        intro u1 v14 hown1 hg hat1
        have nx_00 := nx_0
        have hnb : ∀ g, (Value.slice (some ⟨B0, 0, none⟩) 0 0).ownBlock = some g → BN ≠ g := fun g e => Ne.symm (HNE0.out g e)
        have hrow : ∀ g, (Value.slice (some ⟨B0, 0, none⟩) 0 0).ownBlock = some g → w.heap.size ≤ g := fun g e => (HO0.out.lt g e).1
        have sz14 : v13.heap.size ≤ v14.heap.size := hg.size
        replace nx_0 := cell_grow hg nx_0 (fun g e => hnb g e)
        have HBh14 := Lib.hid (HBh13.out.grown hg (by have := HBh13.out.size; omega) (fun g e => hrow g e))
        have HO1 := Lib.hid hown1
        have HNE1 := Lib.hid (show ∀ g, u1.ownBlock = some g → g ≠ BN from fun g e => by (rcases hat1 with e2 | e2); (rw [e2] at e; exact HNE0.out g e); (have h7 : v13.heap.size = g := by (rw [e2] at e; simpa using e)); (have h8 := block_lt_of_cell (a := ⟨BN, 0, none⟩) nx_00); omega)
        clear hown1 hg hat1 hrow hnb
        clear nx_00
        refine hK.out _ _ ?_ (fun hHeld => ?_)
        · exact trivial
        clear hK K
        try simp only [List.getElem_toArray, List.getElem_cons_succ, List.getElem_cons_zero, Act.put, List.setIfInBounds_toArray, List.set_cons_zero, List.set_cons_succ]
        refine wpAnyH_ready (rs := [7]) (by kernel_rfl) (by simp) ?_
        refine AllReadyH.cons rfl (fun K hK => ?_) AllReadyH.nil
        clear hHeld
        refine step_append_any rfl _ _ 22 rfl w.heap.size 3 i0 (.int .i64 0) 1 8 Try.underlying22 hi hz0 hz1 hz2 rfl (by decide) u1 (0 + kk) ([] ++ (cs.take kk)) (by rfl) HO1.out ⟨BN, 0, none⟩ 1 1 [.int .i64 n9] (by rfl) (by rfl) (fun j u hj => by (have h7 : j = 0 := by (have := (List.getElem?_eq_some_iff.1 hj).1; simp at this; exact this)); subst h7; simp at hj; subst hj; simpa [Addr.add] using nx_0) (by simp [Value.oneCell']) (by unfold maxLen; omega) (by omega) (by have := HBh14.out.size; omega) ?_
        intro u2 v15 hown2 hg hat2
        have nx_00 := nx_0
        have hnb : ∀ g, u1.ownBlock = some g → BN ≠ g := fun g e => Ne.symm (HNE1.out g e)
        have hrow : ∀ g, u1.ownBlock = some g → w.heap.size ≤ g := fun g e => (HO1.out.lt g e).1
        have sz15 : v14.heap.size ≤ v15.heap.size := hg.size
        replace nx_0 := cell_grow hg nx_0 (fun g e => hnb g e)
        have HBh15 := Lib.hid (HBh14.out.grown hg (by have := HBh14.out.size; omega) (fun g e => hrow g e))
        have HO2 := Lib.hid hown2
        have HNE2 := Lib.hid (show ∀ g, u2.ownBlock = some g → g ≠ BN from fun g e => by (rcases hat2 with e2 | e2); (rw [e2] at e; exact HNE1.out g e); (have h7 : v14.heap.size = g := by (rw [e2] at e; simpa using e)); (have h8 := block_lt_of_cell (a := ⟨BN, 0, none⟩) nx_00); omega)
        clear hown2 hg hat2 hrow hnb
        clear nx_00
        refine hK.out _ _ ?_ (fun hHeld => ?_)
        · exact trivial
        clear hK K
        try simp only [List.getElem_toArray, List.getElem_cons_succ, List.getElem_cons_zero, Act.put, List.setIfInBounds_toArray, List.set_cons_zero, List.set_cons_succ]
        refine wpAnyH_ready (rs := [11]) (by kernel_rfl) (by simp) ?_
        refine AllReadyH.cons rfl (fun K hK => ?_) AllReadyH.nil
        clear hHeld
        refine step_append_any rfl _ _ 22 rfl w.heap.size 3 i0 (.int .i64 0) 1 8 Try.underlying22 hi hz0 hz1 hz2 rfl (by decide) u2 (0 + kk + 1) ([] ++ (cs.take kk) ++ [.int .i64 n9]) (by rfl) HO2.out ⟨gl, kk, none⟩ (zs.length - kk) (cp - kk) (cs.drop kk) (by rfl) (by rw [List.length_drop]; omega) (fun j u hj => by rw [Go.WideShapes.add_plain]; exact cell_below HBh15.out (HCL.out (kk + j) u (by rw [List.getElem?_drop] at hj; exact hj)) hgl) (fun u hu => HONE.out u (List.mem_of_mem_drop hu)) (by unfold maxLen; omega) (by omega) (by have := HBh15.out.size; omega) ?_
        intro u3 v16 hown3 hg hat3
        have nx_00 := nx_0
        have hnb : ∀ g, u2.ownBlock = some g → BN ≠ g := fun g e => Ne.symm (HNE2.out g e)
        have hrow : ∀ g, u2.ownBlock = some g → w.heap.size ≤ g := fun g e => (HO2.out.lt g e).1
        have sz16 : v15.heap.size ≤ v16.heap.size := hg.size
        replace nx_0 := cell_grow hg nx_0 (fun g e => hnb g e)
        have HBh16 := Lib.hid (HBh15.out.grown hg (by have := HBh15.out.size; omega) (fun g e => hrow g e))
        have HO3 := Lib.hid hown3
        have HNE3 := Lib.hid (show ∀ g, u3.ownBlock = some g → g ≠ BN from fun g e => by (rcases hat3 with e2 | e2); (rw [e2] at e; exact HNE2.out g e); (have h7 : v15.heap.size = g := by (rw [e2] at e; simpa using e)); (have h8 := block_lt_of_cell (a := ⟨BN, 0, none⟩) nx_00); omega)
        clear hown3 hg hat3 hrow hnb
        clear nx_00
        refine hK.out _ _ ?_ (fun hHeld => ?_)
        · exact trivial
        clear hK K
        try simp only [List.getElem_toArray, List.getElem_cons_succ, List.getElem_cons_zero, Act.put, List.setIfInBounds_toArray, List.set_cons_zero, List.set_cons_succ]
        refine wpAnyH_take (i := 12) (v := ?_) rfl (by kernel_rfl) (by kernel_rfl) (by kernel_rfl) (fun _ _ _ h => h) (Or.inl ⟨by rfl, ?_⟩) (by assumption) ?_
        rotate_left
        · intro w9 hSw; (try dsimp only at hSw); go_simp; try with_reducible rfl
        try simp only [List.getElem_toArray, List.getElem_cons_succ, List.getElem_cons_zero, Act.put, List.setIfInBounds_toArray, List.set_cons_zero, List.set_cons_succ]
        refine wpAnyH_done (by kernel_rfl) ?_ _
        refine NoPanic.normal ?_
        clear hHeld
        have hfin : v16.ownsRow w.heap.size 3 1 u3 (zs.length + 1) (cs.take kk ++ .int .i64 n9 :: cs.drop kk) := by
          have h7 := HO3.out
          rw [show 0 + kk + 1 + (zs.length - kk) = zs.length + 1 by omega] at h7
          simpa [List.append_assoc] using h7
        have HF := Lib.hid hfin
        clear hfin
        go_wp2_with fail
        go_ret
        exact HFIN.out u3 v16 HF.out HBh16.out
end Go.Proofs.Ythohnnobahcdpaa.puti
