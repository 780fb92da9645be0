/- The walk of the model's places in the order of their distances. -/
import Derived.Test.YtkbcofgigfnfaaaNearP
import Derived.Test.YtkbcofgigfnfaaaNearQ
import Derived.Test.YtkbcofgigfnfaaaMk
import Derived.Maps.AppendAt
import Derived.Deep.RegionHeld3
import Derived.Deep.DrawnRows
import Derived.Deep.AppendLies
import Derived.BigQuiet
namespace Go.Proofs.Ytkbcofgigfnfaaa.nears
open Go.RowKit own pp nums nearp squares dots mk nearq
set_option linter.unusedVariables false
attribute [local go_sem ↓] Go.wp_at_zero Go.wp_at_succ
set_option linter.unusedSimpArgs false

theorem block_lt_of_cell {w : World} {a : Addr} {x : Value} (h : w.cell? a = some x) : a.block < w.heap.size := World.block_lt_of_cell? w a h
theorem cell_keep {W W' : World} (h : Below W.heap.size W W') {b o : Nat} {x : Value} (hx : W.cell? ⟨b, o, none⟩ = some x) : W'.cell? ⟨b, o, none⟩ = some x :=
  cell_below h hx (block_lt_of_cell (a := ⟨b, o, none⟩) hx)
theorem fro_keep {W W' : World} (h : Below W.heap.size W W') {b o o' : Nat} {x : Value} (hx : W.cell? ⟨b, o', none⟩ = some x) (hf : W.frozen? ⟨b, o, none⟩ = false) : W'.frozen? ⟨b, o, none⟩ = false :=
  fro_below h hf (block_lt_of_cell (a := ⟨b, o', none⟩) hx)
theorem cell_grow {W W' : World} {row : Option Nat} (h : W.grownBy W' row) {b o : Nat} {x : Value} (hx : W.cell? ⟨b, o, none⟩ = some x) (hne : ∀ g, row = some g → b ≠ g) : W'.cell? ⟨b, o, none⟩ = some x :=
  (World.cell?_of_block (h.block b (block_lt_of_cell (a := ⟨b, o, none⟩) hx) (fun e => hne b e.symm rfl))).trans hx
theorem fro_grow {W W' : World} {row : Option Nat} (h : W.grownBy W' row) {b o o' : Nat} {x : Value} (hx : W.cell? ⟨b, o', none⟩ = some x) (hf : W.frozen? ⟨b, o, none⟩ = false) (hne : ∀ g, row = some g → b ≠ g) : W'.frozen? ⟨b, o, none⟩ = false :=
  (World.frozen?_of_block (a := ⟨b, o, none⟩) (h.block b (block_lt_of_cell (a := ⟨b, o', none⟩) hx) (fun e => hne b e.symm rfl))).trans hf
theorem own_grow {W W' : World} {row : Option Nat} (h : W.grownBy W' row) {lo hi : Nat} {v : Value} {zs : List Int} (ho : OwnI lo hi W v zs) (hne : ∀ g, row = some g → g < lo ∨ hi ≤ g) : OwnI lo hi W' v zs :=
  ho.block fun g hg => h.block g (ho.lt hg).2.2 (fun e => by have := hne g e.symm; have := ho.lt hg; omega)
theorem cell_set2 {W : World} {b o b' o' : Nat} {x : Value} (hx : W.cell? ⟨b, o, none⟩ = some x) (hne : b ≠ b') (u : Value) : (W.setCell ⟨b', o', none⟩ u).cell? ⟨b, o, none⟩ = some x :=
  (World.cell?_of_block (Below.heap_setCell _ _ _ _ (by show b ≠ b'; exact hne))).trans hx
theorem step_append_any {ops : Array Oper} {o : Oper} {a : Act} {w : World} {K : Act → World → Prop} {Q : Exit → Act → World → Prop} {E : Prop} (hgd : o.guard = none) (s x : Operand) (t : TypeId)
    (ho : o.op = .call { callee := .builtin .append, args := #[s, x], argTypes := #[t, t] })
    (base : Nat) (e : TypeId) (i : TypeInfo) (z : Value) (size bytes : Nat) (ht : Try.prog.underlying t = some (.slice e)) (hi : Try.prog.info? e = some i) (hz : i.zero = some z)
    (hsize : i.size = size) (hby : i.bytes = bytes) (hzs : z.cells.size = size) (hsz : 0 < size)
    (v : Value) (n : Nat) (xs : List Value) (hs : a.eval s = v) (hown : w.ownsRow base e size v n xs)
    (ad : Addr) (m c : Nat) (news : List Value) (hx : a.eval x = .slice (some ad) m c) (hl : news.length = m * size) (hnews : ∀ j u, news[j]? = some u → w.cell? (ad.add j) = some u) (h1 : ∀ u ∈ news, u.oneCell' = true)
    (h63 : n + m ≤ maxLen) (hbytes : (n + m) * bytes ≤ 140737488355328) (hbase : base ≤ w.heap.size)
    (h : ∀ v' w', w'.ownsRow base e size v' (n + m) (xs ++ news) → w.grownBy w' v.ownBlock → (v'.ownBlock = v.ownBlock ∨ v'.ownBlock = some w.heap.size) → K (a.put o.dst v') w') :
    if Region.wanted o (yielded ops a.tmps) = true then Oper.wp Try.prog o a w K Q else E := by
  have hw : Region.wanted o (yielded ops a.tmps) = true := by simp [Region.wanted, hgd]
  rw [if_pos hw]
  obtain ⟨v', w', hr, h2, h3, _, h4⟩ := run_append_own_at (P := Try.prog) w base t o.type e i z size bytes ht hi hz hsize hby hzs hsz v n xs hown ad m c news hl hnews h1 h63 hbytes hbase
  unfold Oper.wp execOp
  simp only [ho, resolve, invoke, builtin, Sem.run_bind, Sem.run_pure, Result.andThen_ok, List.map_toArray, List.map_cons, List.map_nil, hs, hx, hr]
  exact h v' w' h2 h3 h4
theorem take_some {α : Type} {l : List α} {k j : Nat} {u : α} (h : (l.take k)[j]? = some u) : l[j]? = some u := by
  rw [List.getElem?_take] at h
  split at h
  · exact h
  · cases h
theorem ints_one (zs : List Int) : ∀ u ∈ zs.map (Value.int .i64), u.oneCell' = true := by
  intro u hu
  obtain ⟨z, _, rfl⟩ := List.mem_map.1 hu
  rfl
set_option maxRecDepth 100000 in
set_option maxHeartbeats 8000000 in
theorem spec_near (a : Option Addr) (rows : List (List Int)) (c : Nat) (a' : Option Addr) (zs : List Int) (c' : Nat) (e : Option Addr) (ps : List Int) (d : Nat) (x : Option Addr) (xs : List Int) (q : Nat) (w : World) (hr : grid.Reads w a rows) (hp : ints.Reads .i64 w e ps) (hx : ints.Reads .i64 w x xs) (hN : Nbr rows ps xs) :
    Calls Try.prog 60 #[.agg #[.slice a rows.length c, .slice a' zs.length c'], .slice e ps.length d, .slice x xs.length q] w (intfns.Made (near (dist rows xs) ps) w) := by
  obtain ⟨i0, hi, hz0, hz1, hz2⟩ := info_parts mk.infoInt
  have HNB := Lib.hid hN
  have Hhr := Lib.hid hr
  have Hhp := Lib.hid hp
  have Hhx := Lib.hid hx
  have HhN := Lib.hid hN
  clear hr hp hx hN
  go_enter Try.func60, Try.ntmps60
  obtain ⟨wb1, hw1⟩ : ∃ wb1 : World, wb1 = w.alloc (.cells #[.slice a rows.length c, .slice a' zs.length c'] 29) := ⟨_, rfl⟩
  have z1 : wb1.heap.size = w.heap.size + 1 := by rw [hw1]; simp
  have x0_0 := (by rw [hw1]; exact cell_new _ _ _ rfl rfl : wb1.cell? ⟨w.heap.size, 0, none⟩ = some (.slice a rows.length c))
  have x0_1 := (by rw [hw1]; exact cell_new _ _ _ rfl rfl : wb1.cell? ⟨w.heap.size, 1, none⟩ = some (.slice a' zs.length c'))
  have HB0 := Lib.hid (show Below w.heap.size w wb1 by rw [hw1]; exact (Below.refl w.heap.size w).alloc (Nat.le_refl _) _)
  have s1 : w.heap.size + 1 ≤ wb1.heap.size := by omega
  have HZ1 := Lib.hid z1
  clear z1
  have hown0 : (wb1.alloc (.cells #[] 3)).ownsRow wb1.heap.size 3 1 (.slice (some ⟨wb1.heap.size, 0, none⟩) 0 0) 0 ((nearTo (dist rows xs) ps 0).map (Value.int .i64)) := (own_empty wb1).1
  have hbc := below_alloc wb1 (.cells #[] 3)
  have HO0 := Lib.hid hown0
  have HBC := Lib.hid hbc
  clear hown0 hbc
  go_wp2_with fail
  rw [← hw1]
  clear hw1
  rw [show w.heap.size + 1 = wb1.heap.size from HZ1.out.symm]
  obtain ⟨D, hD⟩ : ∃ D : Int → Int, D = dist rows xs := ⟨_, rfl⟩
  have HDD := Lib.hid hD
  rw [← hD] at HO0
  clear hD
  go_loopw [7, 8] (fun v i wr => ∃ (k1 : Nat) (gl cp : Nat), k1 ≤ ps.length ∧ i = .int .i64 k1 ∧ v = .slice (some ⟨gl, 0, none⟩) k1 cp ∧ wr.ownsRow wb1.heap.size 3 1 (.slice (some ⟨gl, 0, none⟩) k1 cp) k1 ((nearTo D ps k1).map (Value.int .i64)) ∧ Below wb1.heap.size wb1 wr) (fun _ i _ => ps.length - (intOf i).toNat)
  case atStart => exact ⟨0, wb1.heap.size, 0, Nat.zero_le _, rfl, rfl, HO0.out, HBC.out⟩
  case round =>
    obtain ⟨k1, gl, cp, hk1, rfl, rfl, hown, hbel⟩ := hrel
    obtain ⟨wo, hwo⟩ : ∃ wo, wo = wr := ⟨_, rfl⟩
    subst hwo
    have HO := Lib.hid hown
    have HBO0 := Lib.hid hbel
    have hszo := hbel.size
    have h16p := HNB.out.2.1
    have hglo := hown.lt gl rfl
    have hcap : k1 ≤ cp := by
      rcases hown.2 with ⟨e, _⟩ | ⟨g, cap, cur, e, _, _, h1, _⟩
      · cases e
      · cases e; exact h1
    clear hown hbel HO0
    by_cases hlt : k1 < ps.length
    · obtain ⟨be, bo, rfl, hbe, hce⟩ := (Hhp.out.below HB0.out).at hlt
      have hce := cell_below HBO0.out hce hbe
      obtain ⟨hp0, hp1, hpr⟩ := HNB.out.2.2 k1 hlt
      have HLL := Lib.hid (show (nearTo D ps k1).length = k1 from nearTo_length _ _ _)
      have HMM := Lib.hid (fun (j : Nat) (hj : j < k1) => near_nbr HNB.out D k1 hk1 j hj)
      obtain ⟨n9, hn9⟩ : ∃ n9 : Int, n9 = ps.getD k1 0 := ⟨_, rfl⟩
      obtain ⟨m9, hm9⟩ : ∃ m9 : Nat, n9 = (m9 : Int) := ⟨n9.toNat, by omega⟩
      subst hm9
      obtain ⟨L, hL⟩ : ∃ L : List Int, L = nearTo D ps k1 := ⟨_, rfl⟩
      have HLD := Lib.hid (show ps.getD k1 0 = (m9 : Int) from hn9.symm)
      have HPN := Lib.hid (show nearTo D ps k1 = L from hL.symm)
      rw [← hL] at HO HLL HMM
      rw [← hn9] at hce hp0 hp1 hpr
      have hm9r : m9 < rows.length := by omega
      obtain ⟨pl, hpl⟩ : ∃ pl : Nat, pl = pos D (m9 : Int) L := ⟨_, rfl⟩
      have HPP := Lib.hid (show pos D (m9 : Int) L = pl from hpl.symm)
      have hple : pl ≤ k1 := by have := pos_le D (m9 : Int) L; have := HLL.out; omega
      have HPH := Lib.hid (show ∀ j, j < pl → D (L.getD j 0) ≤ D (m9 : Int) from fun j hj => pos_hit D (m9 : Int) L j (by omega))
      have HPM := Lib.hid (show pl < k1 → D (m9 : Int) < D (L.getD pl 0) from fun hj => by rw [hpl]; exact pos_miss D (m9 : Int) L (by rw [← hpl, HLL.out]; exact hj))
      clear hpl hL hn9
      have hd9 : D (m9 : Int) = sq (rows.getD m9 []) xs := by rw [HDD.out]; unfold dist; rw [Int.toNat_natCast]
      rw [Int.toNat_natCast] at hpr
      have hb9 := ((pairB_iff _ _).1 hpr)
      obtain ⟨bl9, off9, rp9, rq9, hab9, hbl9, hcr9, _, hrow9⟩ := (Hhr.out.below HB0.out).at hm9r
      subst hab9
      have hcr9 := cell_below HBO0.out hcr9 hbl9
      have HRW9 := Lib.hid (hrow9.below HBO0.out)
      have HX9 := Lib.hid ((Hhx.out.below HB0.out).below HBO0.out)
      have HB9 := Lib.hid hb9
      have i1 : (0 : Int) ≤ (k1 : Int) := by omega
      have i2 : (k1 : Int) < (ps.length : Int) := by omega
      have i3 : (0 : Int) ≤ (m9 : Int) := by omega
      have i4 : (m9 : Int) < (rows.length : Int) := by omega
      have y0 := cell_below HBO0.out x0_0 (by omega)
      have y1 := cell_below HBO0.out x0_1 (by omega)
      clear hrow9 hpr hb9
      go_wp2_with fail
      go_loopw [9] (fun i wr => ∃ kk : Nat, kk ≤ pl ∧ i = .int .i64 kk ∧ Below wo.heap.size wo wr) (fun i _ => k1 - (intOf i).toNat)
      case atStart => exact ⟨0, Nat.zero_le _, rfl, Below.refl _ _⟩
      case round =>
        obtain ⟨kk, hkk, rfl, hbel2⟩ := hrel
        have hsz2 := hbel2.size
        have HBO := Lib.hid (HBO0.out.trans (hbel2.mono hszo))
        have HB2 := Lib.hid hbel2
        have z0 := cell_below hbel2 y0 (by omega)
        have z1 := cell_below hbel2 y1 (by omega)
        have hit := cell_below hbel2 hce (by omega)
        have hcr2 := cell_below hbel2 hcr9 (by omega)
        have hbe2 : be < wr.heap.size := by omega
        have hgl : gl < wr.heap.size := by omega
        have ho1 := ownsRow_block (w' := wr) HO.out (fun g hg => hbel2.block g (HO.out.lt g hg).2)
        have hszo : wb1.heap.size ≤ wr.heap.size := by omega
        have k01 : (0 : Int) ≤ (kk : Int) := by omega
        obtain ⟨cs, hcs⟩ : ∃ cs : List Value, L.map (Value.int .i64) = cs := ⟨_, rfl⟩
        have HONE := Lib.hid (show ∀ u ∈ cs, u.oneCell' = true by rw [← hcs]; exact ints_one L)
        have hcl : cs.length = k1 := by rw [← hcs, List.length_map, HLL.out]
        have HCL := Lib.hid (show ∀ j u, cs[j]? = some u → wr.cell? ⟨gl, j, none⟩ = some u from fun j u hj => by
          have h9 := (List.getElem?_eq_some_iff.1 hj).1
          have h8 := ho1.cellAt j (by omega)
          rw [h8, hcs]; exact hj)
        have HFIN := Lib.hid (show ∀ (u : Value) (w' : World), w'.ownsRow wr.heap.size 3 1 u (k1 + 1) (cs.take pl ++ .int .i64 (m9 : Int) :: cs.drop pl) → w'.ownsRow wb1.heap.size 3 1 u (k1 + 1) ((nearTo D ps (k1 + 1)).map (Value.int .i64)) from fun u w' h => by
          have e1 : nearTo D ps (k1 + 1) = L.take pl ++ (m9 : Int) :: L.drop pl := by
            show ins D (ps.getD k1 0) (nearTo D ps k1) = _
            rw [ins_pos, HPN.out, HLD.out, HPP.out]
          rw [e1, List.map_append, List.map_cons, List.map_take, List.map_drop, hcs]
          exact ownsRow_base h (fun g hg => by have := (h.lt g hg).1; omega))
        have HCLL := Lib.hid (show ∀ j, j < k1 → wr.cell? ⟨gl, j, none⟩ = some (.int .i64 (L.getD j 0)) from fun j hj => by rw [ho1.cellAt j (by omega), List.getElem?_map, List.getElem?_eq_getElem (by have := HLL.out; omega), List.getD_eq_getElem?_getD, List.getElem?_eq_getElem (by have := HLL.out; omega)]; rfl)
        clear hcs ho1
        have HBM := Lib.hid (Below.refl wr.heap.size wr)
        by_cases hlt2 : kk < k1
        · have k02 : (kk : Int) < (k1 : Int) := by omega
          obtain ⟨hq0, hq1, hqp⟩ := HMM.out kk hlt2
          obtain ⟨mz, hmz⟩ : ∃ mz : Nat, L.getD kk 0 = (mz : Int) := ⟨(L.getD kk 0).toNat, by omega⟩
          have hmzr : mz < rows.length := by omega
          have hcl2 : wr.cell? ⟨gl, kk, none⟩ = some (.int .i64 (mz : Int)) := by
            rw [← hmz]
            exact HCLL.out kk hlt2
          obtain ⟨blz, offz, rpz, rqz, habz, hblz, hcrz, _, hrowz⟩ := (Hhr.out.below HB0.out).at hmzr
          cases habz
          have hcrz := cell_below HBO.out hcrz hblz
          have HRWz := Lib.hid (hrowz.below HBO.out)
          have hdz : D (L.getD kk 0) = sq (rows.getD mz []) xs := by rw [HDD.out, hmz]; unfold dist; rw [Int.toNat_natCast]
          rw [hmz, Int.toNat_natCast] at hqp
          have hbz := (pairB_iff _ _).1 hqp
          have HC1 := Lib.hid (fun (wa : World) (hb : Below wr.heap.size wr wa) => spec_sq rpz (rows.getD mz []) rqz x xs q wa (HRWz.out.below hb) ((HX9.out.below HB2.out).below hb) (by have := (pointB_iff _).1 hbz.1; omega) (by have := (pointB_iff _).1 hbz.2.1; omega) ((pointB_iff _).1 hbz.1).2.2 ((pointB_iff _).1 hbz.2.1).2.2 hbz.2.2)
          have HC2 := Lib.hid (fun (wa : World) (hb : Below wr.heap.size wr wa) => spec_sq rp9 (rows.getD m9 []) rq9 x xs q wa ((HRW9.out.below HB2.out).below hb) ((HX9.out.below HB2.out).below hb) (by have := (pointB_iff _).1 HB9.out.1; omega) (by have := (pointB_iff _).1 HB9.out.2.1; omega) ((pointB_iff _).1 HB9.out.1).2.2 ((pointB_iff _).1 HB9.out.2.1).2.2 HB9.out.2.2)
          have k03 : (0 : Int) ≤ (mz : Int) := by omega
          have k04 : (mz : Int) < (rows.length : Int) := by omega
          by_cases hkp : kk < pl
          · have hb := HPH.out kk hkp
            rw [hdz, hd9] at hb
            have g9 : decide (sq (rows.getD mz []) xs ≤ sq (rows.getD m9 []) xs) = true := by simpa using hb
            clear hb hdz hrowz hqp hbz hmz hq0 hq1 HCL HFIN
            generalize sq (rows.getD mz []) xs = dz at *
            generalize sq (rows.getD m9 []) xs = d9 at *
            generalize rows.getD mz [] = rz at *
            generalize rows.getD m9 [] = r9 at *
            go_wp2_with fail
            refine wp_region_noPanic ?_
            refine wp_region_held_drew (S := fun w' => w'.cell? ⟨w.heap.size, 0, none⟩ = some (.slice (some ⟨bl9, off9, none⟩) rows.length c) ∧ w'.cell? ⟨be, bo + k1, none⟩ = some (.int .i64 (m9 : Int)) ∧ w'.cell? ⟨bl9, off9 + m9, none⟩ = some (.slice rp9 r9.length rq9) ∧ w'.cell? ⟨gl, kk, none⟩ = some (.int .i64 (mz : Int)) ∧ w'.cell? ⟨bl9, off9 + mz, none⟩ = some (.slice rpz rz.length rqz)) (by kernel_rfl) ?_ (fun hHeld => ?_)
            · exact ⟨z0, hit, hcr2, hcl2, hcrz⟩
            have hb : Below wr.heap.size wr wr.drew := (Below.refl _ _).drew
            generalize hwn : wr.drew = v31 at *
            clear hwn
            have sz31 : wr.heap.size ≤ v31.heap.size := hb.size
            replace z0 := cell_keep hb z0
            replace hcr2 := cell_keep hb hcr2
            replace hcl2 := cell_keep hb hcl2
            replace hcrz := cell_keep hb hcrz
            replace hit := cell_keep hb hit
            have HBh31 := Lib.hid (HBM.out.trans (hb.mono (by have := HBM.out.size; omega)))
            clear hb
            refine wpAnyH_take (i := 0) (v := ?_) rfl (by kernel_rfl) (by kernel_rfl) (by kernel_rfl) (fun _ _ _ h => h) (Or.inl ⟨by rfl, ?_⟩) (by assumption) ?_
            rotate_left
            · intro w9 hSw; (try dsimp only at hSw); go_simp; try with_reducible rfl
            try simp only [List.getElem_toArray, List.getElem_cons_succ, List.getElem_cons_zero, Act.put, List.setIfInBounds_toArray, List.set_cons_zero, List.set_cons_succ]
            refine wpAnyH_take (i := 1) (v := ?_) rfl (by kernel_rfl) (by kernel_rfl) (by kernel_rfl) (fun _ _ _ h => h) (Or.inl ⟨by rfl, ?_⟩) (by assumption) ?_
            rotate_left
            · intro w9 hSw; (try dsimp only at hSw); go_simp; try with_reducible rfl
            try simp only [List.getElem_toArray, List.getElem_cons_succ, List.getElem_cons_zero, Act.put, List.setIfInBounds_toArray, List.set_cons_zero, List.set_cons_succ]
            refine wpAnyH_take (i := 2) (v := ?_) rfl (by kernel_rfl) (by kernel_rfl) (by kernel_rfl) (fun _ _ _ h => h) (Or.inl ⟨by rfl, ?_⟩) (by assumption) ?_
            rotate_left
            · intro w9 hSw; (try dsimp only at hSw); go_simp; try with_reducible rfl
            try simp only [List.getElem_toArray, List.getElem_cons_succ, List.getElem_cons_zero, Act.put, List.setIfInBounds_toArray, List.set_cons_zero, List.set_cons_succ]
            refine wpAnyH_take (i := 3) (v := ?_) rfl (by kernel_rfl) (by kernel_rfl) (by kernel_rfl) (fun _ _ _ h => h) (Or.inl ⟨by rfl, ?_⟩) (by assumption) ?_
            rotate_left
            · intro w9 hSw; (try dsimp only at hSw); go_simp; try with_reducible rfl
            try simp only [List.getElem_toArray, List.getElem_cons_succ, List.getElem_cons_zero, Act.put, List.setIfInBounds_toArray, List.set_cons_zero, List.set_cons_succ]
            refine wpAnyH_take (i := 4) (v := ?_) rfl (by kernel_rfl) (by kernel_rfl) (by kernel_rfl) (fun _ _ _ h => h) (Or.inl ⟨by rfl, ?_⟩) (by assumption) ?_
            rotate_left
            · intro w9 hSw; (try dsimp only at hSw); go_simp; try with_reducible rfl
            try simp only [List.getElem_toArray, List.getElem_cons_succ, List.getElem_cons_zero, Act.put, List.setIfInBounds_toArray, List.set_cons_zero, List.set_cons_succ]
            refine wpAnyH_take (i := 5) (v := ?_) rfl (by kernel_rfl) (by kernel_rfl) (by kernel_rfl) (fun _ _ _ h => h) (Or.inl ⟨by rfl, ?_⟩) (by assumption) ?_
            rotate_left
            · intro w9 hSw; (try dsimp only at hSw); go_simp; try with_reducible rfl
            try simp only [List.getElem_toArray, List.getElem_cons_succ, List.getElem_cons_zero, Act.put, List.setIfInBounds_toArray, List.set_cons_zero, List.set_cons_succ]
            refine wpAnyH_take (i := 6) (v := ?_) rfl (by kernel_rfl) (by kernel_rfl) (by kernel_rfl) (fun _ _ _ h => h) (Or.inl ⟨by rfl, ?_⟩) (by assumption) ?_
            rotate_left
            · intro w9 hSw; (try dsimp only at hSw); go_simp; try with_reducible rfl
            try simp only [List.getElem_toArray, List.getElem_cons_succ, List.getElem_cons_zero, Act.put, List.setIfInBounds_toArray, List.set_cons_zero, List.set_cons_succ]
            refine wpAnyH_take (i := 7) (v := ?_) rfl (by kernel_rfl) (by kernel_rfl) (by kernel_rfl) (fun _ _ _ h => h) (Or.inl ⟨by rfl, ?_⟩) (by assumption) ?_
            rotate_left
            · intro w9 hSw; (try dsimp only at hSw); go_simp; try with_reducible rfl
            try simp only [List.getElem_toArray, List.getElem_cons_succ, List.getElem_cons_zero, Act.put, List.setIfInBounds_toArray, List.set_cons_zero, List.set_cons_succ]
            refine wpAnyH_take (i := 8) (v := ?_) rfl (by kernel_rfl) (by kernel_rfl) (by kernel_rfl) (fun _ _ _ h => h) (Or.inl ⟨by rfl, ?_⟩) (by assumption) ?_
            rotate_left
            · intro w9 hSw; (try dsimp only at hSw); go_simp; try with_reducible rfl
            try simp only [List.getElem_toArray, List.getElem_cons_succ, List.getElem_cons_zero, Act.put, List.setIfInBounds_toArray, List.set_cons_zero, List.set_cons_succ]
            refine wpAnyH_take (i := 9) (v := ?_) rfl (by kernel_rfl) (by kernel_rfl) (by kernel_rfl) (fun _ _ _ h => h) (Or.inl ⟨by rfl, ?_⟩) (by assumption) ?_
            rotate_left
            · intro w9 hSw; (try dsimp only at hSw); go_simp; try with_reducible rfl
            try simp only [List.getElem_toArray, List.getElem_cons_succ, List.getElem_cons_zero, Act.put, List.setIfInBounds_toArray, List.set_cons_zero, List.set_cons_succ]
            refine wpAnyH_take (i := 10) (v := ?_) rfl (by kernel_rfl) (by kernel_rfl) (by kernel_rfl) (fun _ _ _ h => h) (Or.inl ⟨by rfl, ?_⟩) (by assumption) ?_
            rotate_left
            · intro w9 hSw; (try dsimp only at hSw); go_simp; try with_reducible rfl
            try simp only [List.getElem_toArray, List.getElem_cons_succ, List.getElem_cons_zero, Act.put, List.setIfInBounds_toArray, List.set_cons_zero, List.set_cons_succ]
            refine wpAnyH_take (i := 11) (v := ?_) rfl (by kernel_rfl) (by kernel_rfl) (by kernel_rfl) (fun _ _ _ h => h) (Or.inl ⟨by rfl, ?_⟩) (by assumption) ?_
            rotate_left
            · intro w9 hSw; (try dsimp only at hSw); go_simp; try with_reducible rfl
            try simp only [List.getElem_toArray, List.getElem_cons_succ, List.getElem_cons_zero, Act.put, List.setIfInBounds_toArray, List.set_cons_zero, List.set_cons_succ]
            refine wpAnyH_take (i := 12) (v := ?_) rfl (by kernel_rfl) (by kernel_rfl) (by kernel_rfl) (fun _ _ _ h => h) (Or.inl ⟨by rfl, ?_⟩) (by assumption) ?_
            rotate_left
            · intro w9 hSw; (try dsimp only at hSw); go_simp; try with_reducible rfl
            try simp only [List.getElem_toArray, List.getElem_cons_succ, List.getElem_cons_zero, Act.put, List.setIfInBounds_toArray, List.set_cons_zero, List.set_cons_succ]
            refine wpAnyH_take (i := 13) (v := ?_) rfl (by kernel_rfl) (by kernel_rfl) (by kernel_rfl) (fun _ _ _ h => h) (Or.inl ⟨by rfl, ?_⟩) (by assumption) ?_
            rotate_left
            · intro w9 hSw; (try dsimp only at hSw); go_simp; try with_reducible rfl
            try simp only [List.getElem_toArray, List.getElem_cons_succ, List.getElem_cons_zero, Act.put, List.setIfInBounds_toArray, List.set_cons_zero, List.set_cons_succ]
            refine wpAnyH_take (i := 15) (v := ?_) rfl (by kernel_rfl) (by kernel_rfl) (by kernel_rfl) (fun _ _ _ h => h) (Or.inl ⟨by rfl, ?_⟩) (by assumption) ?_
            rotate_left
            · intro w9 hSw; (try dsimp only at hSw); go_simp; try with_reducible rfl
            try simp only [List.getElem_toArray, List.getElem_cons_succ, List.getElem_cons_zero, Act.put, List.setIfInBounds_toArray, List.set_cons_zero, List.set_cons_succ]
            refine wpAnyH_take (i := 16) (v := ?_) rfl (by kernel_rfl) (by kernel_rfl) (by kernel_rfl) (fun _ _ _ h => h) (Or.inl ⟨by rfl, ?_⟩) (by assumption) ?_
            rotate_left
            · intro w9 hSw; (try dsimp only at hSw); go_simp; try with_reducible rfl
            try simp only [List.getElem_toArray, List.getElem_cons_succ, List.getElem_cons_zero, Act.put, List.setIfInBounds_toArray, List.set_cons_zero, List.set_cons_succ]
            refine wpAnyH_take (i := 17) (v := ?_) rfl (by kernel_rfl) (by kernel_rfl) (by kernel_rfl) (fun _ _ _ h => h) (Or.inl ⟨by rfl, ?_⟩) (by assumption) ?_
            rotate_left
            · intro w9 hSw; (try dsimp only at hSw); go_simp; try with_reducible rfl
            try simp only [List.getElem_toArray, List.getElem_cons_succ, List.getElem_cons_zero, Act.put, List.setIfInBounds_toArray, List.set_cons_zero, List.set_cons_succ]
            refine wpAnyH_take (i := 18) (v := ?_) rfl (by kernel_rfl) (by kernel_rfl) (by kernel_rfl) (fun _ _ _ h => h) (Or.inl ⟨by rfl, ?_⟩) (by assumption) ?_
            rotate_left
            · intro w9 hSw; (try dsimp only at hSw); go_simp; try with_reducible rfl
            try simp only [List.getElem_toArray, List.getElem_cons_succ, List.getElem_cons_zero, Act.put, List.setIfInBounds_toArray, List.set_cons_zero, List.set_cons_succ]
            refine wpAnyH_take (i := 19) (v := ?_) rfl (by kernel_rfl) (by kernel_rfl) (by kernel_rfl) (fun _ _ _ h => h) (Or.inl ⟨by rfl, ?_⟩) (by assumption) ?_
            rotate_left
            · intro w9 hSw; (try dsimp only at hSw); go_simp; try with_reducible rfl
            try simp only [List.getElem_toArray, List.getElem_cons_succ, List.getElem_cons_zero, Act.put, List.setIfInBounds_toArray, List.set_cons_zero, List.set_cons_succ]
            refine wpAnyH_take (i := 20) (v := ?_) rfl (by kernel_rfl) (by kernel_rfl) (by kernel_rfl) (fun _ _ _ h => h) (Or.inl ⟨by rfl, ?_⟩) (by assumption) ?_
            rotate_left
            · intro w9 hSw; (try dsimp only at hSw); go_simp; try with_reducible rfl
            try simp only [List.getElem_toArray, List.getElem_cons_succ, List.getElem_cons_zero, Act.put, List.setIfInBounds_toArray, List.set_cons_zero, List.set_cons_succ]
            refine wpAnyH_take (i := 21) (v := ?_) rfl (by kernel_rfl) (by kernel_rfl) (by kernel_rfl) (fun _ _ _ h => h) (Or.inl ⟨by rfl, ?_⟩) (by assumption) ?_
            rotate_left
            · intro w9 hSw; (try dsimp only at hSw); go_simp; try with_reducible rfl
            try simp only [List.getElem_toArray, List.getElem_cons_succ, List.getElem_cons_zero, Act.put, List.setIfInBounds_toArray, List.set_cons_zero, List.set_cons_succ]
            refine wpAnyH_take (i := 22) (v := ?_) rfl (by kernel_rfl) (by kernel_rfl) (by kernel_rfl) (fun _ _ _ h => h) (Or.inl ⟨by rfl, ?_⟩) (by assumption) ?_
            rotate_left
            · intro w9 hSw; (try dsimp only at hSw); go_simp; try with_reducible rfl
            try simp only [List.getElem_toArray, List.getElem_cons_succ, List.getElem_cons_zero, Act.put, List.setIfInBounds_toArray, List.set_cons_zero, List.set_cons_succ]
            refine wpAnyH_take (i := 23) (v := ?_) rfl (by kernel_rfl) (by kernel_rfl) (by kernel_rfl) (fun _ _ _ h => h) (Or.inl ⟨by rfl, ?_⟩) (by assumption) ?_
            rotate_left
            · intro w9 hSw; (try dsimp only at hSw); go_simp; try with_reducible rfl
            try simp only [List.getElem_toArray, List.getElem_cons_succ, List.getElem_cons_zero, Act.put, List.setIfInBounds_toArray, List.set_cons_zero, List.set_cons_succ]
            refine wpAnyH_ready (rs := [14]) (by kernel_rfl) (by simp) ?_
            refine AllReadyH.cons rfl (fun K hK => ?_) AllReadyH.nil
            clear hHeld
            go_simp
            refine (HC1.out _ HBh31.out).mono ?_
            rintro e' w' ⟨rfl, mm, rfl⟩
            have hb := ints.below_drewN (Below.refl v31.heap.size v31) mm
            generalize hwn : v31.drewN mm = v32 at *
            clear hwn
            have sz32 : v31.heap.size ≤ v32.heap.size := hb.size
            replace z0 := cell_keep hb z0
            replace hcr2 := cell_keep hb hcr2
            replace hcl2 := cell_keep hb hcl2
            replace hcrz := cell_keep hb hcrz
            replace hit := cell_keep hb hit
            have HBh32 := Lib.hid (HBh31.out.trans (hb.mono (by have := HBh31.out.size; omega)))
            clear hb
            refine hK.out _ _ ?_ (fun hHeld => ?_)
            · exact ⟨z0, hit, hcr2, hcl2, hcrz⟩
            clear hK K
            try simp only [List.getElem_toArray, List.getElem_cons_succ, List.getElem_cons_zero, Act.put, List.setIfInBounds_toArray, List.set_cons_zero, List.set_cons_succ]
            refine wpAnyH_ready (rs := [24]) (by kernel_rfl) (by simp) ?_
            refine AllReadyH.cons rfl (fun K hK => ?_) AllReadyH.nil
            clear hHeld
            go_simp
            refine (HC2.out _ HBh32.out).mono ?_
            rintro e' w' ⟨rfl, mm, rfl⟩
            have hb := ints.below_drewN (Below.refl v32.heap.size v32) mm
            generalize hwn : v32.drewN mm = v33 at *
            clear hwn
            have sz33 : v32.heap.size ≤ v33.heap.size := hb.size
            replace z0 := cell_keep hb z0
            replace hcr2 := cell_keep hb hcr2
            replace hcl2 := cell_keep hb hcl2
            replace hcrz := cell_keep hb hcrz
            replace hit := cell_keep hb hit
            have HBh33 := Lib.hid (HBh32.out.trans (hb.mono (by have := HBh32.out.size; omega)))
            clear hb
            refine hK.out _ _ ?_ (fun hHeld => ?_)
            · exact ⟨z0, hit, hcr2, hcl2, hcrz⟩
            clear hK K
            try simp only [List.getElem_toArray, List.getElem_cons_succ, List.getElem_cons_zero, Act.put, List.setIfInBounds_toArray, List.set_cons_zero, List.set_cons_succ]
            refine wpAnyH_take (i := 25) (v := ?_) rfl (by kernel_rfl) (by kernel_rfl) (by kernel_rfl) (fun _ _ _ h => h) (Or.inl ⟨by rfl, ?_⟩) (by assumption) ?_
            rotate_left
            · intro w9 hSw; (try dsimp only at hSw); go_simp; try with_reducible rfl
            try simp only [List.getElem_toArray, List.getElem_cons_succ, List.getElem_cons_zero, Act.put, List.setIfInBounds_toArray, List.set_cons_zero, List.set_cons_succ]
            refine wpAnyH_take (i := 26) (v := ?_) rfl (by kernel_rfl) (by kernel_rfl) (by kernel_rfl) (fun _ _ _ h => h) (Or.inl ⟨by rfl, ?_⟩) (by assumption) ?_
            rotate_left
            · intro w9 hSw; (try dsimp only at hSw); go_simp; try with_reducible rfl
            try simp only [List.getElem_toArray, List.getElem_cons_succ, List.getElem_cons_zero, Act.put, List.setIfInBounds_toArray, List.set_cons_zero, List.set_cons_succ]
            refine wpAnyH_done (by kernel_rfl) ?_ _
            refine NoPanic.normal ?_
            clear hHeld
            go_wp2_with fail
            go_roundw
            case rel => exact ⟨kk + 1, by omega, by go_num, HB2.out.trans (HBh33.out.mono hsz2)⟩
            case measure => simp [intOf]; omega
          · obtain rfl : kk = pl := by omega
            have hb := HPM.out hlt2
            rw [hdz, hd9] at hb
            have g9 : decide (sq (rows.getD mz []) xs ≤ sq (rows.getD m9 []) xs) = false := by simpa using hb
            have hk1' : kk ≤ cp := by omega
            have hk2 : ¬ (cp = kk) := by omega
            clear hb hdz hrowz hqp hbz hmz hq0 hq1
            generalize sq (rows.getD mz []) xs = dz at *
            generalize sq (rows.getD m9 []) xs = d9 at *
            generalize rows.getD mz [] = rz at *
            generalize rows.getD m9 [] = r9 at *
            go_wp2_with fail
            refine wp_region_noPanic ?_
            refine wp_region_held_drew (S := fun w' => w'.cell? ⟨w.heap.size, 0, none⟩ = some (.slice (some ⟨bl9, off9, none⟩) rows.length c) ∧ w'.cell? ⟨be, bo + k1, none⟩ = some (.int .i64 (m9 : Int)) ∧ w'.cell? ⟨bl9, off9 + m9, none⟩ = some (.slice rp9 r9.length rq9) ∧ w'.cell? ⟨gl, kk, none⟩ = some (.int .i64 (mz : Int)) ∧ w'.cell? ⟨bl9, off9 + mz, none⟩ = some (.slice rpz rz.length rqz)) (by kernel_rfl) ?_ (fun hHeld => ?_)
            · exact ⟨z0, hit, hcr2, hcl2, hcrz⟩
            have hb : Below wr.heap.size wr wr.drew := (Below.refl _ _).drew
            generalize hwn : wr.drew = v31 at *
            clear hwn
            have sz31 : wr.heap.size ≤ v31.heap.size := hb.size
            replace z0 := cell_keep hb z0
            replace hcr2 := cell_keep hb hcr2
            replace hcl2 := cell_keep hb hcl2
            replace hcrz := cell_keep hb hcrz
            replace hit := cell_keep hb hit
            have HBh31 := Lib.hid (HBM.out.trans (hb.mono (by have := HBM.out.size; omega)))
            clear hb
            refine wpAnyH_take (i := 0) (v := ?_) rfl (by kernel_rfl) (by kernel_rfl) (by kernel_rfl) (fun _ _ _ h => h) (Or.inl ⟨by rfl, ?_⟩) (by assumption) ?_
            rotate_left
            · intro w9 hSw; (try dsimp only at hSw); go_simp; try with_reducible rfl
            try simp only [List.getElem_toArray, List.getElem_cons_succ, List.getElem_cons_zero, Act.put, List.setIfInBounds_toArray, List.set_cons_zero, List.set_cons_succ]
            refine wpAnyH_take (i := 1) (v := ?_) rfl (by kernel_rfl) (by kernel_rfl) (by kernel_rfl) (fun _ _ _ h => h) (Or.inl ⟨by rfl, ?_⟩) (by assumption) ?_
            rotate_left
            · intro w9 hSw; (try dsimp only at hSw); go_simp; try with_reducible rfl
            try simp only [List.getElem_toArray, List.getElem_cons_succ, List.getElem_cons_zero, Act.put, List.setIfInBounds_toArray, List.set_cons_zero, List.set_cons_succ]
            refine wpAnyH_take (i := 2) (v := ?_) rfl (by kernel_rfl) (by kernel_rfl) (by kernel_rfl) (fun _ _ _ h => h) (Or.inl ⟨by rfl, ?_⟩) (by assumption) ?_
            rotate_left
            · intro w9 hSw; (try dsimp only at hSw); go_simp; try with_reducible rfl
            try simp only [List.getElem_toArray, List.getElem_cons_succ, List.getElem_cons_zero, Act.put, List.setIfInBounds_toArray, List.set_cons_zero, List.set_cons_succ]
            refine wpAnyH_take (i := 3) (v := ?_) rfl (by kernel_rfl) (by kernel_rfl) (by kernel_rfl) (fun _ _ _ h => h) (Or.inl ⟨by rfl, ?_⟩) (by assumption) ?_
            rotate_left
            · intro w9 hSw; (try dsimp only at hSw); go_simp; try with_reducible rfl
            try simp only [List.getElem_toArray, List.getElem_cons_succ, List.getElem_cons_zero, Act.put, List.setIfInBounds_toArray, List.set_cons_zero, List.set_cons_succ]
            refine wpAnyH_take (i := 4) (v := ?_) rfl (by kernel_rfl) (by kernel_rfl) (by kernel_rfl) (fun _ _ _ h => h) (Or.inl ⟨by rfl, ?_⟩) (by assumption) ?_
            rotate_left
            · intro w9 hSw; (try dsimp only at hSw); go_simp; try with_reducible rfl
            try simp only [List.getElem_toArray, List.getElem_cons_succ, List.getElem_cons_zero, Act.put, List.setIfInBounds_toArray, List.set_cons_zero, List.set_cons_succ]
            refine wpAnyH_take (i := 5) (v := ?_) rfl (by kernel_rfl) (by kernel_rfl) (by kernel_rfl) (fun _ _ _ h => h) (Or.inl ⟨by rfl, ?_⟩) (by assumption) ?_
            rotate_left
            · intro w9 hSw; (try dsimp only at hSw); go_simp; try with_reducible rfl
            try simp only [List.getElem_toArray, List.getElem_cons_succ, List.getElem_cons_zero, Act.put, List.setIfInBounds_toArray, List.set_cons_zero, List.set_cons_succ]
            refine wpAnyH_take (i := 6) (v := ?_) rfl (by kernel_rfl) (by kernel_rfl) (by kernel_rfl) (fun _ _ _ h => h) (Or.inl ⟨by rfl, ?_⟩) (by assumption) ?_
            rotate_left
            · intro w9 hSw; (try dsimp only at hSw); go_simp; try with_reducible rfl
            try simp only [List.getElem_toArray, List.getElem_cons_succ, List.getElem_cons_zero, Act.put, List.setIfInBounds_toArray, List.set_cons_zero, List.set_cons_succ]
            refine wpAnyH_take (i := 7) (v := ?_) rfl (by kernel_rfl) (by kernel_rfl) (by kernel_rfl) (fun _ _ _ h => h) (Or.inl ⟨by rfl, ?_⟩) (by assumption) ?_
            rotate_left
            · intro w9 hSw; (try dsimp only at hSw); go_simp; try with_reducible rfl
            try simp only [List.getElem_toArray, List.getElem_cons_succ, List.getElem_cons_zero, Act.put, List.setIfInBounds_toArray, List.set_cons_zero, List.set_cons_succ]
            refine wpAnyH_take (i := 8) (v := ?_) rfl (by kernel_rfl) (by kernel_rfl) (by kernel_rfl) (fun _ _ _ h => h) (Or.inl ⟨by rfl, ?_⟩) (by assumption) ?_
            rotate_left
            · intro w9 hSw; (try dsimp only at hSw); go_simp; try with_reducible rfl
            try simp only [List.getElem_toArray, List.getElem_cons_succ, List.getElem_cons_zero, Act.put, List.setIfInBounds_toArray, List.set_cons_zero, List.set_cons_succ]
            refine wpAnyH_take (i := 9) (v := ?_) rfl (by kernel_rfl) (by kernel_rfl) (by kernel_rfl) (fun _ _ _ h => h) (Or.inl ⟨by rfl, ?_⟩) (by assumption) ?_
            rotate_left
            · intro w9 hSw; (try dsimp only at hSw); go_simp; try with_reducible rfl
            try simp only [List.getElem_toArray, List.getElem_cons_succ, List.getElem_cons_zero, Act.put, List.setIfInBounds_toArray, List.set_cons_zero, List.set_cons_succ]
            refine wpAnyH_take (i := 10) (v := ?_) rfl (by kernel_rfl) (by kernel_rfl) (by kernel_rfl) (fun _ _ _ h => h) (Or.inl ⟨by rfl, ?_⟩) (by assumption) ?_
            rotate_left
            · intro w9 hSw; (try dsimp only at hSw); go_simp; try with_reducible rfl
            try simp only [List.getElem_toArray, List.getElem_cons_succ, List.getElem_cons_zero, Act.put, List.setIfInBounds_toArray, List.set_cons_zero, List.set_cons_succ]
            refine wpAnyH_take (i := 11) (v := ?_) rfl (by kernel_rfl) (by kernel_rfl) (by kernel_rfl) (fun _ _ _ h => h) (Or.inl ⟨by rfl, ?_⟩) (by assumption) ?_
            rotate_left
            · intro w9 hSw; (try dsimp only at hSw); go_simp; try with_reducible rfl
            try simp only [List.getElem_toArray, List.getElem_cons_succ, List.getElem_cons_zero, Act.put, List.setIfInBounds_toArray, List.set_cons_zero, List.set_cons_succ]
            refine wpAnyH_take (i := 12) (v := ?_) rfl (by kernel_rfl) (by kernel_rfl) (by kernel_rfl) (fun _ _ _ h => h) (Or.inl ⟨by rfl, ?_⟩) (by assumption) ?_
            rotate_left
            · intro w9 hSw; (try dsimp only at hSw); go_simp; try with_reducible rfl
            try simp only [List.getElem_toArray, List.getElem_cons_succ, List.getElem_cons_zero, Act.put, List.setIfInBounds_toArray, List.set_cons_zero, List.set_cons_succ]
            refine wpAnyH_take (i := 13) (v := ?_) rfl (by kernel_rfl) (by kernel_rfl) (by kernel_rfl) (fun _ _ _ h => h) (Or.inl ⟨by rfl, ?_⟩) (by assumption) ?_
            rotate_left
            · intro w9 hSw; (try dsimp only at hSw); go_simp; try with_reducible rfl
            try simp only [List.getElem_toArray, List.getElem_cons_succ, List.getElem_cons_zero, Act.put, List.setIfInBounds_toArray, List.set_cons_zero, List.set_cons_succ]
            refine wpAnyH_take (i := 15) (v := ?_) rfl (by kernel_rfl) (by kernel_rfl) (by kernel_rfl) (fun _ _ _ h => h) (Or.inl ⟨by rfl, ?_⟩) (by assumption) ?_
            rotate_left
            · intro w9 hSw; (try dsimp only at hSw); go_simp; try with_reducible rfl
            try simp only [List.getElem_toArray, List.getElem_cons_succ, List.getElem_cons_zero, Act.put, List.setIfInBounds_toArray, List.set_cons_zero, List.set_cons_succ]
            refine wpAnyH_take (i := 16) (v := ?_) rfl (by kernel_rfl) (by kernel_rfl) (by kernel_rfl) (fun _ _ _ h => h) (Or.inl ⟨by rfl, ?_⟩) (by assumption) ?_
            rotate_left
            · intro w9 hSw; (try dsimp only at hSw); go_simp; try with_reducible rfl
            try simp only [List.getElem_toArray, List.getElem_cons_succ, List.getElem_cons_zero, Act.put, List.setIfInBounds_toArray, List.set_cons_zero, List.set_cons_succ]
            refine wpAnyH_take (i := 17) (v := ?_) rfl (by kernel_rfl) (by kernel_rfl) (by kernel_rfl) (fun _ _ _ h => h) (Or.inl ⟨by rfl, ?_⟩) (by assumption) ?_
            rotate_left
            · intro w9 hSw; (try dsimp only at hSw); go_simp; try with_reducible rfl
            try simp only [List.getElem_toArray, List.getElem_cons_succ, List.getElem_cons_zero, Act.put, List.setIfInBounds_toArray, List.set_cons_zero, List.set_cons_succ]
            refine wpAnyH_take (i := 18) (v := ?_) rfl (by kernel_rfl) (by kernel_rfl) (by kernel_rfl) (fun _ _ _ h => h) (Or.inl ⟨by rfl, ?_⟩) (by assumption) ?_
            rotate_left
            · intro w9 hSw; (try dsimp only at hSw); go_simp; try with_reducible rfl
            try simp only [List.getElem_toArray, List.getElem_cons_succ, List.getElem_cons_zero, Act.put, List.setIfInBounds_toArray, List.set_cons_zero, List.set_cons_succ]
            refine wpAnyH_take (i := 19) (v := ?_) rfl (by kernel_rfl) (by kernel_rfl) (by kernel_rfl) (fun _ _ _ h => h) (Or.inl ⟨by rfl, ?_⟩) (by assumption) ?_
            rotate_left
            · intro w9 hSw; (try dsimp only at hSw); go_simp; try with_reducible rfl
            try simp only [List.getElem_toArray, List.getElem_cons_succ, List.getElem_cons_zero, Act.put, List.setIfInBounds_toArray, List.set_cons_zero, List.set_cons_succ]
            refine wpAnyH_take (i := 20) (v := ?_) rfl (by kernel_rfl) (by kernel_rfl) (by kernel_rfl) (fun _ _ _ h => h) (Or.inl ⟨by rfl, ?_⟩) (by assumption) ?_
            rotate_left
            · intro w9 hSw; (try dsimp only at hSw); go_simp; try with_reducible rfl
            try simp only [List.getElem_toArray, List.getElem_cons_succ, List.getElem_cons_zero, Act.put, List.setIfInBounds_toArray, List.set_cons_zero, List.set_cons_succ]
            refine wpAnyH_take (i := 21) (v := ?_) rfl (by kernel_rfl) (by kernel_rfl) (by kernel_rfl) (fun _ _ _ h => h) (Or.inl ⟨by rfl, ?_⟩) (by assumption) ?_
            rotate_left
            · intro w9 hSw; (try dsimp only at hSw); go_simp; try with_reducible rfl
            try simp only [List.getElem_toArray, List.getElem_cons_succ, List.getElem_cons_zero, Act.put, List.setIfInBounds_toArray, List.set_cons_zero, List.set_cons_succ]
            refine wpAnyH_take (i := 22) (v := ?_) rfl (by kernel_rfl) (by kernel_rfl) (by kernel_rfl) (fun _ _ _ h => h) (Or.inl ⟨by rfl, ?_⟩) (by assumption) ?_
            rotate_left
            · intro w9 hSw; (try dsimp only at hSw); go_simp; try with_reducible rfl
            try simp only [List.getElem_toArray, List.getElem_cons_succ, List.getElem_cons_zero, Act.put, List.setIfInBounds_toArray, List.set_cons_zero, List.set_cons_succ]
            refine wpAnyH_take (i := 23) (v := ?_) rfl (by kernel_rfl) (by kernel_rfl) (by kernel_rfl) (fun _ _ _ h => h) (Or.inl ⟨by rfl, ?_⟩) (by assumption) ?_
            rotate_left
            · intro w9 hSw; (try dsimp only at hSw); go_simp; try with_reducible rfl
            try simp only [List.getElem_toArray, List.getElem_cons_succ, List.getElem_cons_zero, Act.put, List.setIfInBounds_toArray, List.set_cons_zero, List.set_cons_succ]
            refine wpAnyH_ready (rs := [14]) (by kernel_rfl) (by simp) ?_
            refine AllReadyH.cons rfl (fun K hK => ?_) AllReadyH.nil
            clear hHeld
            go_simp
            refine (HC1.out _ HBh31.out).mono ?_
            rintro e' w' ⟨rfl, mm, rfl⟩
            have hb := ints.below_drewN (Below.refl v31.heap.size v31) mm
            generalize hwn : v31.drewN mm = v32 at *
            clear hwn
            have sz32 : v31.heap.size ≤ v32.heap.size := hb.size
            replace z0 := cell_keep hb z0
            replace hcr2 := cell_keep hb hcr2
            replace hcl2 := cell_keep hb hcl2
            replace hcrz := cell_keep hb hcrz
            replace hit := cell_keep hb hit
            have HBh32 := Lib.hid (HBh31.out.trans (hb.mono (by have := HBh31.out.size; omega)))
            clear hb
            refine hK.out _ _ ?_ (fun hHeld => ?_)
            · exact ⟨z0, hit, hcr2, hcl2, hcrz⟩
            clear hK K
            try simp only [List.getElem_toArray, List.getElem_cons_succ, List.getElem_cons_zero, Act.put, List.setIfInBounds_toArray, List.set_cons_zero, List.set_cons_succ]
            refine wpAnyH_ready (rs := [24]) (by kernel_rfl) (by simp) ?_
            refine AllReadyH.cons rfl (fun K hK => ?_) AllReadyH.nil
            clear hHeld
            go_simp
            refine (HC2.out _ HBh32.out).mono ?_
            rintro e' w' ⟨rfl, mm, rfl⟩
            have hb := ints.below_drewN (Below.refl v32.heap.size v32) mm
            generalize hwn : v32.drewN mm = v33 at *
            clear hwn
            have sz33 : v32.heap.size ≤ v33.heap.size := hb.size
            replace z0 := cell_keep hb z0
            replace hcr2 := cell_keep hb hcr2
            replace hcl2 := cell_keep hb hcl2
            replace hcrz := cell_keep hb hcrz
            replace hit := cell_keep hb hit
            have HBh33 := Lib.hid (HBh32.out.trans (hb.mono (by have := HBh32.out.size; omega)))
            clear hb
            refine hK.out _ _ ?_ (fun hHeld => ?_)
            · exact ⟨z0, hit, hcr2, hcl2, hcrz⟩
            clear hK K
            try simp only [List.getElem_toArray, List.getElem_cons_succ, List.getElem_cons_zero, Act.put, List.setIfInBounds_toArray, List.set_cons_zero, List.set_cons_succ]
            refine wpAnyH_take (i := 25) (v := ?_) rfl (by kernel_rfl) (by kernel_rfl) (by kernel_rfl) (fun _ _ _ h => h) (Or.inl ⟨by rfl, ?_⟩) (by assumption) ?_
            rotate_left
            · intro w9 hSw; (try dsimp only at hSw); go_simp; try with_reducible rfl
            try simp only [List.getElem_toArray, List.getElem_cons_succ, List.getElem_cons_zero, Act.put, List.setIfInBounds_toArray, List.set_cons_zero, List.set_cons_succ]
            refine wpAnyH_take (i := 26) (v := ?_) rfl (by kernel_rfl) (by kernel_rfl) (by kernel_rfl) (fun _ _ _ h => h) (Or.inl ⟨by rfl, ?_⟩) (by assumption) ?_
            rotate_left
            · intro w9 hSw; (try dsimp only at hSw); go_simp; try with_reducible rfl
            try simp only [List.getElem_toArray, List.getElem_cons_succ, List.getElem_cons_zero, Act.put, List.setIfInBounds_toArray, List.set_cons_zero, List.set_cons_succ]
            refine wpAnyH_done (by kernel_rfl) ?_ _
            refine NoPanic.normal ?_
            clear hHeld
            go_wp2_with fail
            refine wp_region_noPanic ?_
            refine wp_region_held_drew (S := fun w' => w'.cell? ⟨be, bo + k1, none⟩ = some (.int .i64 (m9 : Int))) (by kernel_rfl) ?_ (fun hHeld => ?_)
            · exact hit
            have hb : Below v33.heap.size v33 v33.drew := (Below.refl _ _).drew
            generalize hwn : v33.drew = v34 at *
            clear hwn
            have sz34 : v33.heap.size ≤ v34.heap.size := hb.size
            replace hit := cell_keep hb hit
            have HBh34 := Lib.hid (HBh33.out.trans (hb.mono (by have := HBh33.out.size; omega)))
            clear hb
            refine wpAnyH_take (i := 1) (v := ?_) rfl (by kernel_rfl) (by kernel_rfl) (by kernel_rfl) (fun _ _ _ h => h) (Or.inl ⟨by rfl, ?_⟩) (by assumption) ?_
            rotate_left
            · intro w9 hSw; (try dsimp only at hSw); go_simp; try with_reducible rfl
            try simp only [List.getElem_toArray, List.getElem_cons_succ, List.getElem_cons_zero, Act.put, List.setIfInBounds_toArray, List.set_cons_zero, List.set_cons_succ]
            refine wpAnyH_take (i := 2) (v := ?_) rfl (by kernel_rfl) (by kernel_rfl) (by kernel_rfl) (fun _ _ _ h => h) (Or.inl ⟨by rfl, ?_⟩) (by assumption) ?_
            rotate_left
            · intro w9 hSw; (try dsimp only at hSw); go_simp; try with_reducible rfl
            try simp only [List.getElem_toArray, List.getElem_cons_succ, List.getElem_cons_zero, Act.put, List.setIfInBounds_toArray, List.set_cons_zero, List.set_cons_succ]
            refine wpAnyH_take (i := 3) (v := ?_) rfl (by kernel_rfl) (by kernel_rfl) (by kernel_rfl) (fun _ _ _ h => h) (Or.inl ⟨by rfl, ?_⟩) (by assumption) ?_
            rotate_left
            · intro w9 hSw; (try dsimp only at hSw); go_simp; try with_reducible rfl
            try simp only [List.getElem_toArray, List.getElem_cons_succ, List.getElem_cons_zero, Act.put, List.setIfInBounds_toArray, List.set_cons_zero, List.set_cons_succ]
            refine wpAnyH_take (i := 5) (v := ?_) rfl (by kernel_rfl) (by kernel_rfl) (by kernel_rfl) (fun _ _ _ h => h) (Or.inl ⟨by rfl, ?_⟩) (by assumption) ?_
            rotate_left
            · intro w9 hSw; (try dsimp only at hSw); go_simp; try with_reducible rfl
            try simp only [List.getElem_toArray, List.getElem_cons_succ, List.getElem_cons_zero, Act.put, List.setIfInBounds_toArray, List.set_cons_zero, List.set_cons_succ]
            refine wpAnyH_take (i := 6) (v := ?_) rfl (by kernel_rfl) (by kernel_rfl) (by kernel_rfl) (fun _ _ _ h => h) (Or.inl ⟨by rfl, ?_⟩) (by assumption) ?_
            rotate_left
            · intro w9 hSw; (try dsimp only at hSw); go_simp; try with_reducible rfl
            try simp only [List.getElem_toArray, List.getElem_cons_succ, List.getElem_cons_zero, Act.put, List.setIfInBounds_toArray, List.set_cons_zero, List.set_cons_succ]
            refine wpAnyH_take (i := 7) (v := ?_) rfl (by kernel_rfl) (by kernel_rfl) (by kernel_rfl) (fun _ _ _ h => h) (Or.inl ⟨by rfl, ?_⟩) (by assumption) ?_
            rotate_left
            · intro w9 hSw; (try dsimp only at hSw); go_simp; try with_reducible rfl
            try simp only [List.getElem_toArray, List.getElem_cons_succ, List.getElem_cons_zero, Act.put, List.setIfInBounds_toArray, List.set_cons_zero, List.set_cons_succ]
            refine wpAnyH_take (i := 8) (v := ?_) rfl (by kernel_rfl) (by kernel_rfl) (by kernel_rfl) (fun _ _ _ h => h) (Or.inl ⟨by rfl, ?_⟩) (by assumption) ?_
            rotate_left
            · intro w9 hSw; (try dsimp only at hSw); go_simp; try with_reducible rfl
            try simp only [List.getElem_toArray, List.getElem_cons_succ, List.getElem_cons_zero, Act.put, List.setIfInBounds_toArray, List.set_cons_zero, List.set_cons_succ]
            refine wpAnyH_take (i := 11) (v := ?_) rfl (by kernel_rfl) (by kernel_rfl) (by kernel_rfl) (fun _ _ _ h => h) (Or.inl ⟨by rfl, ?_⟩) (by assumption) ?_
            rotate_left
            · intro w9 hSw; (try dsimp only at hSw); go_simp; try with_reducible rfl
            try simp only [List.getElem_toArray, List.getElem_cons_succ, List.getElem_cons_zero, Act.put, List.setIfInBounds_toArray, List.set_cons_zero, List.set_cons_succ]
            refine wpAnyH_take (i := 12) (v := ?_) rfl (by kernel_rfl) (by kernel_rfl) (by kernel_rfl) (fun _ _ _ h => h) (Or.inl ⟨by rfl, ?_⟩) (by assumption) ?_
            rotate_left
            · intro w9 hSw; (try dsimp only at hSw); go_simp; try with_reducible rfl
            try simp only [List.getElem_toArray, List.getElem_cons_succ, List.getElem_cons_zero, Act.put, List.setIfInBounds_toArray, List.set_cons_zero, List.set_cons_succ]
            refine wpAnyH_take (i := 13) (v := ?_) rfl (by kernel_rfl) (by kernel_rfl) (by kernel_rfl) (fun _ _ _ h => h) (Or.inl ⟨by rfl, ?_⟩) (by assumption) ?_
            rotate_left
            · intro w9 hSw; (try dsimp only at hSw); go_simp; try with_reducible rfl
            try simp only [List.getElem_toArray, List.getElem_cons_succ, List.getElem_cons_zero, Act.put, List.setIfInBounds_toArray, List.set_cons_zero, List.set_cons_succ]
            refine wpAnyH_ready (rs := [0, 9]) (by kernel_rfl) (by simp) ?_
            refine AllReadyH.cons rfl (fun K hK => ?_) ?_
            · skip
              clear hHeld
              go_simp
              have ho0 : (v34.alloc (.cells #[] 3)).ownsRow wr.heap.size 3 1 (.slice (some ⟨v34.heap.size, 0, none⟩) 0 0) 0 [] := World.ownsRow_made (base := wr.heap.size) (e := 3) (size := 1) v34 #[] 0 (by have := HBh34.out.size; omega) (by unfold maxLen; omega) rfl
              have hb := below_alloc v34 (.cells #[] 3)
              have lt_v0 := size_alloc' v34 (.cells #[] 3)
              obtain ⟨B0, hB0⟩ : ∃ B0 : Nat, B0 = v34.heap.size := ⟨_, rfl⟩
              rw [← hB0] at ho0 ⊢
              have hB0l : B0 ≤ v34.heap.size ∧ v34.heap.size ≤ B0 := by omega
              clear hB0
              generalize hwn : v34.alloc (.cells #[] 3) = v35 at *
              clear hwn
              have sz35 : v34.heap.size ≤ v35.heap.size := hb.size
              replace hit := cell_keep hb hit
              have HBh35 := Lib.hid (HBh34.out.trans (hb.mono (by have := HBh34.out.size; omega)))
              clear hb
              have HO0 := Lib.hid ho0
              clear ho0
              refine hK.out _ _ ?_ (fun hHeld => ?_)
              · exact hit
              clear hK K
              try simp only [List.getElem_toArray, List.getElem_cons_succ, List.getElem_cons_zero, Act.put, List.setIfInBounds_toArray, List.set_cons_zero, List.set_cons_succ]
              refine wpAnyH_ready (rs := [4, 9]) (by kernel_rfl) (by simp) ?_
              refine AllReadyH.cons rfl (fun K hK => ?_) ?_
              · skip
                clear hHeld
                refine step_append_any rfl _ _ 23 rfl wr.heap.size 3 i0 (.int .i64 0) 1 8 Try.underlying23 hi hz0 hz1 hz2 rfl (by decide) (Value.slice (some ⟨B0, 0, none⟩) 0 0) (0) ([]) (by rfl) HO0.out ⟨gl, 0, none⟩ kk cp (cs.take kk) (by rfl) (by rw [List.length_take]; omega) (fun j u hj => by rw [Go.WideShapes.add_plain, Nat.zero_add]; exact cell_below HBh35.out (HCL.out j u (take_some hj)) hgl) (fun u hu => HONE.out u (List.mem_of_mem_take hu)) (by unfold maxLen; omega) (by omega) (by have := HBh35.out.size; omega) ?_
                intro u1 v36 hown1 hg hat1
                have hrow : ∀ g, (Value.slice (some ⟨B0, 0, none⟩) 0 0).ownBlock = some g → wr.heap.size ≤ g := fun g e => (HO0.out.lt g e).1
                have sz36 : v35.heap.size ≤ v36.heap.size := hg.size
                replace hit := cell_grow hg hit (fun g e => by have := hrow g e; omega)
                have HBh36 := Lib.hid (HBh35.out.grown hg (by have := HBh35.out.size; omega) (fun g e => hrow g e))
                have HO1 := Lib.hid hown1
                clear hown1 hg hat1 hrow
                refine hK.out _ _ ?_ (fun hHeld => ?_)
                · exact hit
                clear hK K
                try simp only [List.getElem_toArray, List.getElem_cons_succ, List.getElem_cons_zero, Act.put, List.setIfInBounds_toArray, List.set_cons_zero, List.set_cons_succ]
                refine wpAnyH_ready (rs := [9]) (by kernel_rfl) (by simp) ?_
                refine AllReadyH.cons rfl (fun K hK => ?_) AllReadyH.nil
                clear hHeld
                go_simp
                have nx_0 : (v36.alloc (.cells #[.int .i64 (m9 : Int)] 3)).cell? ⟨v36.heap.size, 0, none⟩ = some (.int .i64 (m9 : Int)) := cell_new _ _ _ rfl rfl
                have HNE1 := Lib.hid (show ∀ g, u1.ownBlock = some g → g ≠ v36.heap.size from fun g e => by have := (HO1.out.lt g e).2; omega)
                replace HO1 := Lib.hid (HO1.out.alloc (.cells #[.int .i64 (m9 : Int)] 3))
                have hb := below_alloc v36 (.cells #[.int .i64 (m9 : Int)] 3)
                have lt_nx := size_alloc' v36 (.cells #[.int .i64 (m9 : Int)] 3)
                obtain ⟨BN, hBN⟩ : ∃ BN : Nat, BN = v36.heap.size := ⟨_, rfl⟩
                rw [← hBN] at nx_0 HNE1 ⊢
                have hBNl : BN ≤ v36.heap.size ∧ v36.heap.size ≤ BN := by omega
                clear hBN
                generalize hwn : v36.alloc (.cells #[.int .i64 (m9 : Int)] 3) = v37 at *
                clear hwn
                have sz37 : v36.heap.size ≤ v37.heap.size := hb.size
                replace hit := cell_keep hb hit
                have HBh37 := Lib.hid (HBh36.out.trans (hb.mono (by have := HBh36.out.size; omega)))
                clear hb
                refine hK.out _ _ ?_ (fun hHeld => ?_)
                · exact hit
                clear hK K
                try simp only [List.getElem_toArray, List.getElem_cons_succ, List.getElem_cons_zero, Act.put, List.setIfInBounds_toArray, List.set_cons_zero, List.set_cons_succ]
                refine wpAnyH_ready (rs := [10]) (by kernel_rfl) (by simp) ?_
                refine AllReadyH.cons rfl (fun K hK => ?_) AllReadyH.nil
                clear hHeld
                refine step_append_any rfl _ _ 23 rfl wr.heap.size 3 i0 (.int .i64 0) 1 8 Try.underlying23 hi hz0 hz1 hz2 rfl (by decide) u1 (0 + kk) ([] ++ (cs.take kk)) (by rfl) HO1.out ⟨BN, 0, none⟩ 1 1 [.int .i64 (m9 : Int)] (by rfl) (by rfl) (fun j u hj => by (have h7 : j = 0 := by (have := (List.getElem?_eq_some_iff.1 hj).1; simp at this; exact this)); subst h7; simp at hj; subst hj; simpa [Addr.add] using nx_0) (by simp [Value.oneCell']) (by unfold maxLen; omega) (by omega) (by have := HBh37.out.size; omega) ?_
                intro u2 v38 hown2 hg hat2
                have nx_00 := nx_0
                have hnb : ∀ g, u1.ownBlock = some g → BN ≠ g := fun g e => Ne.symm (HNE1.out g e)
                have hrow : ∀ g, u1.ownBlock = some g → wr.heap.size ≤ g := fun g e => (HO1.out.lt g e).1
                have sz38 : v37.heap.size ≤ v38.heap.size := hg.size
                replace hit := cell_grow hg hit (fun g e => by have := hrow g e; omega)
                replace nx_0 := cell_grow hg nx_0 (fun g e => hnb g e)
                have HBh38 := Lib.hid (HBh37.out.grown hg (by have := HBh37.out.size; omega) (fun g e => hrow g e))
                have HO2 := Lib.hid hown2
                have HNE2 := Lib.hid (show ∀ g, u2.ownBlock = some g → g ≠ BN from fun g e => by (rcases hat2 with e2 | e2); (rw [e2] at e; exact HNE1.out g e); (have h7 : v37.heap.size = g := by (rw [e2] at e; simpa using e)); (have h8 := block_lt_of_cell (a := ⟨BN, 0, none⟩) nx_00); omega)
                clear hown2 hg hat2 hrow hnb
                clear nx_00
                refine hK.out _ _ ?_ (fun hHeld => ?_)
                · exact hit
                clear hK K
                try simp only [List.getElem_toArray, List.getElem_cons_succ, List.getElem_cons_zero, Act.put, List.setIfInBounds_toArray, List.set_cons_zero, List.set_cons_succ]
                refine wpAnyH_ready (rs := [14]) (by kernel_rfl) (by simp) ?_
                refine AllReadyH.cons rfl (fun K hK => ?_) AllReadyH.nil
                clear hHeld
                refine step_append_any rfl _ _ 23 rfl wr.heap.size 3 i0 (.int .i64 0) 1 8 Try.underlying23 hi hz0 hz1 hz2 rfl (by decide) u2 (0 + kk + 1) ([] ++ (cs.take kk) ++ [.int .i64 (m9 : Int)]) (by rfl) HO2.out ⟨gl, kk, none⟩ (k1 - kk) (cp - kk) (cs.drop kk) (by rfl) (by rw [List.length_drop]; omega) (fun j u hj => by rw [Go.WideShapes.add_plain]; exact cell_below HBh38.out (HCL.out (kk + j) u (by rw [List.getElem?_drop] at hj; exact hj)) hgl) (fun u hu => HONE.out u (List.mem_of_mem_drop hu)) (by unfold maxLen; omega) (by omega) (by have := HBh38.out.size; omega) ?_
                intro u3 v39 hown3 hg hat3
                have nx_00 := nx_0
                have hnb : ∀ g, u2.ownBlock = some g → BN ≠ g := fun g e => Ne.symm (HNE2.out g e)
                have hrow : ∀ g, u2.ownBlock = some g → wr.heap.size ≤ g := fun g e => (HO2.out.lt g e).1
                have sz39 : v38.heap.size ≤ v39.heap.size := hg.size
                replace hit := cell_grow hg hit (fun g e => by have := hrow g e; omega)
                replace nx_0 := cell_grow hg nx_0 (fun g e => hnb g e)
                have HBh39 := Lib.hid (HBh38.out.grown hg (by have := HBh38.out.size; omega) (fun g e => hrow g e))
                have HO3 := Lib.hid hown3
                have HNE3 := Lib.hid (show ∀ g, u3.ownBlock = some g → g ≠ BN from fun g e => by (rcases hat3 with e2 | e2); (rw [e2] at e; exact HNE2.out g e); (have h7 : v38.heap.size = g := by (rw [e2] at e; simpa using e)); (have h8 := block_lt_of_cell (a := ⟨BN, 0, none⟩) nx_00); omega)
                clear hown3 hg hat3 hrow hnb
                clear nx_00
                refine hK.out _ _ ?_ (fun hHeld => ?_)
                · exact hit
                clear hK K
                try simp only [List.getElem_toArray, List.getElem_cons_succ, List.getElem_cons_zero, Act.put, List.setIfInBounds_toArray, List.set_cons_zero, List.set_cons_succ]
                refine wpAnyH_take (i := 15) (v := ?_) rfl (by kernel_rfl) (by kernel_rfl) (by kernel_rfl) (fun _ _ _ h => h) (Or.inl ⟨by rfl, ?_⟩) (by assumption) ?_
                rotate_left
                · intro w9 hSw; (try dsimp only at hSw); go_simp; try with_reducible rfl
                try simp only [List.getElem_toArray, List.getElem_cons_succ, List.getElem_cons_zero, Act.put, List.setIfInBounds_toArray, List.set_cons_zero, List.set_cons_succ]
                refine wpAnyH_done (by kernel_rfl) ?_ _
                refine NoPanic.normal ?_
                clear hHeld
                have hfin : v39.ownsRow wr.heap.size 3 1 u3 (k1 + 1) (cs.take kk ++ .int .i64 (m9 : Int) :: cs.drop kk) := by
                  have h7 := HO3.out
                  rw [show 0 + kk + 1 + (k1 - kk) = k1 + 1 by omega] at h7
                  simpa [List.append_assoc] using h7
                obtain ⟨g', cap', hv'⟩ := ownsRow_succ hfin
                subst hv'
                have HFN := Lib.hid (HFIN.out _ v39 hfin)
                have HBN := Lib.hid (HBO.out.trans (HBh39.out.mono hszo))
                clear hfin
                go_wp2_with fail
                go_roundw
                case rel => exact ⟨k1 + 1, g', cap', by omega, by go_num, rfl, HFN.out, HBN.out⟩
                case measure => simp [intOf]; omega
              refine AllReadyH.cons rfl (fun K hK => ?_) AllReadyH.nil
              clear hHeld
              go_simp
              have nx_0 : (v35.alloc (.cells #[.int .i64 (m9 : Int)] 3)).cell? ⟨v35.heap.size, 0, none⟩ = some (.int .i64 (m9 : Int)) := cell_new _ _ _ rfl rfl
              have HNE0 := Lib.hid (show ∀ g, (Value.slice (some ⟨B0, 0, none⟩) 0 0).ownBlock = some g → g ≠ v35.heap.size from fun g e => by have := (HO0.out.lt g e).2; omega)
              replace HO0 := Lib.hid (HO0.out.alloc (.cells #[.int .i64 (m9 : Int)] 3))
              have hb := below_alloc v35 (.cells #[.int .i64 (m9 : Int)] 3)
              have lt_nx := size_alloc' v35 (.cells #[.int .i64 (m9 : Int)] 3)
              obtain ⟨BN, hBN⟩ : ∃ BN : Nat, BN = v35.heap.size := ⟨_, rfl⟩
              rw [← hBN] at nx_0 HNE0 ⊢
              have hBNl : BN ≤ v35.heap.size ∧ v35.heap.size ≤ BN := by omega
              clear hBN
              generalize hwn : v35.alloc (.cells #[.int .i64 (m9 : Int)] 3) = v36 at *
              clear hwn
              have sz36 : v35.heap.size ≤ v36.heap.size := hb.size
              replace hit := cell_keep hb hit
              have HBh36 := Lib.hid (HBh35.out.trans (hb.mono (by have := HBh35.out.size; omega)))
              clear hb
              refine hK.out _ _ ?_ (fun hHeld => ?_)
              · exact hit
              clear hK K
              try simp only [List.getElem_toArray, List.getElem_cons_succ, List.getElem_cons_zero, Act.put, List.setIfInBounds_toArray, List.set_cons_zero, List.set_cons_succ]
              refine wpAnyH_ready (rs := [4]) (by kernel_rfl) (by simp) ?_
              refine AllReadyH.cons rfl (fun K hK => ?_) AllReadyH.nil
              clear hHeld
              refine step_append_any rfl _ _ 23 rfl wr.heap.size 3 i0 (.int .i64 0) 1 8 Try.underlying23 hi hz0 hz1 hz2 rfl (by decide) (Value.slice (some ⟨B0, 0, none⟩) 0 0) (0) ([]) (by rfl) HO0.out ⟨gl, 0, none⟩ kk cp (cs.take kk) (by rfl) (by rw [List.length_take]; omega) (fun j u hj => by rw [Go.WideShapes.add_plain, Nat.zero_add]; exact cell_below HBh36.out (HCL.out j u (take_some hj)) hgl) (fun u hu => HONE.out u (List.mem_of_mem_take hu)) (by unfold maxLen; omega) (by omega) (by have := HBh36.out.size; omega) ?_
              intro u1 v37 hown1 hg hat1
              have nx_00 := nx_0
              have hnb : ∀ g, (Value.slice (some ⟨B0, 0, none⟩) 0 0).ownBlock = some g → BN ≠ g := fun g e => Ne.symm (HNE0.out g e)
              have hrow : ∀ g, (Value.slice (some ⟨B0, 0, none⟩) 0 0).ownBlock = some g → wr.heap.size ≤ g := fun g e => (HO0.out.lt g e).1
              have sz37 : v36.heap.size ≤ v37.heap.size := hg.size
              replace hit := cell_grow hg hit (fun g e => by have := hrow g e; omega)
              replace nx_0 := cell_grow hg nx_0 (fun g e => hnb g e)
              have HBh37 := Lib.hid (HBh36.out.grown hg (by have := HBh36.out.size; omega) (fun g e => hrow g e))
              have HO1 := Lib.hid hown1
              have HNE1 := Lib.hid (show ∀ g, u1.ownBlock = some g → g ≠ BN from fun g e => by (rcases hat1 with e2 | e2); (rw [e2] at e; exact HNE0.out g e); (have h7 : v36.heap.size = g := by (rw [e2] at e; simpa using e)); (have h8 := block_lt_of_cell (a := ⟨BN, 0, none⟩) nx_00); omega)
              clear hown1 hg hat1 hrow hnb
              clear nx_00
              refine hK.out _ _ ?_ (fun hHeld => ?_)
              · exact hit
              clear hK K
              try simp only [List.getElem_toArray, List.getElem_cons_succ, List.getElem_cons_zero, Act.put, List.setIfInBounds_toArray, List.set_cons_zero, List.set_cons_succ]
              refine wpAnyH_ready (rs := [10]) (by kernel_rfl) (by simp) ?_
              refine AllReadyH.cons rfl (fun K hK => ?_) AllReadyH.nil
              clear hHeld
              refine step_append_any rfl _ _ 23 rfl wr.heap.size 3 i0 (.int .i64 0) 1 8 Try.underlying23 hi hz0 hz1 hz2 rfl (by decide) u1 (0 + kk) ([] ++ (cs.take kk)) (by rfl) HO1.out ⟨BN, 0, none⟩ 1 1 [.int .i64 (m9 : Int)] (by rfl) (by rfl) (fun j u hj => by (have h7 : j = 0 := by (have := (List.getElem?_eq_some_iff.1 hj).1; simp at this; exact this)); subst h7; simp at hj; subst hj; simpa [Addr.add] using nx_0) (by simp [Value.oneCell']) (by unfold maxLen; omega) (by omega) (by have := HBh37.out.size; omega) ?_
              intro u2 v38 hown2 hg hat2
              have nx_00 := nx_0
              have hnb : ∀ g, u1.ownBlock = some g → BN ≠ g := fun g e => Ne.symm (HNE1.out g e)
              have hrow : ∀ g, u1.ownBlock = some g → wr.heap.size ≤ g := fun g e => (HO1.out.lt g e).1
              have sz38 : v37.heap.size ≤ v38.heap.size := hg.size
              replace hit := cell_grow hg hit (fun g e => by have := hrow g e; omega)
              replace nx_0 := cell_grow hg nx_0 (fun g e => hnb g e)
              have HBh38 := Lib.hid (HBh37.out.grown hg (by have := HBh37.out.size; omega) (fun g e => hrow g e))
              have HO2 := Lib.hid hown2
              have HNE2 := Lib.hid (show ∀ g, u2.ownBlock = some g → g ≠ BN from fun g e => by (rcases hat2 with e2 | e2); (rw [e2] at e; exact HNE1.out g e); (have h7 : v37.heap.size = g := by (rw [e2] at e; simpa using e)); (have h8 := block_lt_of_cell (a := ⟨BN, 0, none⟩) nx_00); omega)
              clear hown2 hg hat2 hrow hnb
              clear nx_00
              refine hK.out _ _ ?_ (fun hHeld => ?_)
              · exact hit
              clear hK K
              try simp only [List.getElem_toArray, List.getElem_cons_succ, List.getElem_cons_zero, Act.put, List.setIfInBounds_toArray, List.set_cons_zero, List.set_cons_succ]
              refine wpAnyH_ready (rs := [14]) (by kernel_rfl) (by simp) ?_
              refine AllReadyH.cons rfl (fun K hK => ?_) AllReadyH.nil
              clear hHeld
              refine step_append_any rfl _ _ 23 rfl wr.heap.size 3 i0 (.int .i64 0) 1 8 Try.underlying23 hi hz0 hz1 hz2 rfl (by decide) u2 (0 + kk + 1) ([] ++ (cs.take kk) ++ [.int .i64 (m9 : Int)]) (by rfl) HO2.out ⟨gl, kk, none⟩ (k1 - kk) (cp - kk) (cs.drop kk) (by rfl) (by rw [List.length_drop]; omega) (fun j u hj => by rw [Go.WideShapes.add_plain]; exact cell_below HBh38.out (HCL.out (kk + j) u (by rw [List.getElem?_drop] at hj; exact hj)) hgl) (fun u hu => HONE.out u (List.mem_of_mem_drop hu)) (by unfold maxLen; omega) (by omega) (by have := HBh38.out.size; omega) ?_
              intro u3 v39 hown3 hg hat3
              have nx_00 := nx_0
              have hnb : ∀ g, u2.ownBlock = some g → BN ≠ g := fun g e => Ne.symm (HNE2.out g e)
              have hrow : ∀ g, u2.ownBlock = some g → wr.heap.size ≤ g := fun g e => (HO2.out.lt g e).1
              have sz39 : v38.heap.size ≤ v39.heap.size := hg.size
              replace hit := cell_grow hg hit (fun g e => by have := hrow g e; omega)
              replace nx_0 := cell_grow hg nx_0 (fun g e => hnb g e)
              have HBh39 := Lib.hid (HBh38.out.grown hg (by have := HBh38.out.size; omega) (fun g e => hrow g e))
              have HO3 := Lib.hid hown3
              have HNE3 := Lib.hid (show ∀ g, u3.ownBlock = some g → g ≠ BN from fun g e => by (rcases hat3 with e2 | e2); (rw [e2] at e; exact HNE2.out g e); (have h7 : v38.heap.size = g := by (rw [e2] at e; simpa using e)); (have h8 := block_lt_of_cell (a := ⟨BN, 0, none⟩) nx_00); omega)
              clear hown3 hg hat3 hrow hnb
              clear nx_00
              refine hK.out _ _ ?_ (fun hHeld => ?_)
              · exact hit
              clear hK K
              try simp only [List.getElem_toArray, List.getElem_cons_succ, List.getElem_cons_zero, Act.put, List.setIfInBounds_toArray, List.set_cons_zero, List.set_cons_succ]
              refine wpAnyH_take (i := 15) (v := ?_) rfl (by kernel_rfl) (by kernel_rfl) (by kernel_rfl) (fun _ _ _ h => h) (Or.inl ⟨by rfl, ?_⟩) (by assumption) ?_
              rotate_left
              · intro w9 hSw; (try dsimp only at hSw); go_simp; try with_reducible rfl
              try simp only [List.getElem_toArray, List.getElem_cons_succ, List.getElem_cons_zero, Act.put, List.setIfInBounds_toArray, List.set_cons_zero, List.set_cons_succ]
              refine wpAnyH_done (by kernel_rfl) ?_ _
              refine NoPanic.normal ?_
              clear hHeld
              have hfin : v39.ownsRow wr.heap.size 3 1 u3 (k1 + 1) (cs.take kk ++ .int .i64 (m9 : Int) :: cs.drop kk) := by
                have h7 := HO3.out
                rw [show 0 + kk + 1 + (k1 - kk) = k1 + 1 by omega] at h7
                simpa [List.append_assoc] using h7
              obtain ⟨g', cap', hv'⟩ := ownsRow_succ hfin
              subst hv'
              have HFN := Lib.hid (HFIN.out _ v39 hfin)
              have HBN := Lib.hid (HBO.out.trans (HBh39.out.mono hszo))
              clear hfin
              go_wp2_with fail
              go_roundw
              case rel => exact ⟨k1 + 1, g', cap', by omega, by go_num, rfl, HFN.out, HBN.out⟩
              case measure => simp [intOf]; omega
            refine AllReadyH.cons rfl (fun K hK => ?_) AllReadyH.nil
            clear hHeld
            go_simp
            have nx_0 : (v34.alloc (.cells #[.int .i64 (m9 : Int)] 3)).cell? ⟨v34.heap.size, 0, none⟩ = some (.int .i64 (m9 : Int)) := cell_new _ _ _ rfl rfl
            have hb := below_alloc v34 (.cells #[.int .i64 (m9 : Int)] 3)
            have lt_nx := size_alloc' v34 (.cells #[.int .i64 (m9 : Int)] 3)
            obtain ⟨BN, hBN⟩ : ∃ BN : Nat, BN = v34.heap.size := ⟨_, rfl⟩
            rw [← hBN] at nx_0  ⊢
            have hBNl : BN ≤ v34.heap.size ∧ v34.heap.size ≤ BN := by omega
            clear hBN
            generalize hwn : v34.alloc (.cells #[.int .i64 (m9 : Int)] 3) = v35 at *
            clear hwn
            have sz35 : v34.heap.size ≤ v35.heap.size := hb.size
            replace hit := cell_keep hb hit
            have HBh35 := Lib.hid (HBh34.out.trans (hb.mono (by have := HBh34.out.size; omega)))
            clear hb
            refine hK.out _ _ ?_ (fun hHeld => ?_)
            · exact hit
            clear hK K
            try simp only [List.getElem_toArray, List.getElem_cons_succ, List.getElem_cons_zero, Act.put, List.setIfInBounds_toArray, List.set_cons_zero, List.set_cons_succ]
            refine wpAnyH_ready (rs := [0]) (by kernel_rfl) (by simp) ?_
            refine AllReadyH.cons rfl (fun K hK => ?_) AllReadyH.nil
            clear hHeld
            go_simp
            have ho0 : (v35.alloc (.cells #[] 3)).ownsRow wr.heap.size 3 1 (.slice (some ⟨v35.heap.size, 0, none⟩) 0 0) 0 [] := World.ownsRow_made (base := wr.heap.size) (e := 3) (size := 1) v35 #[] 0 (by have := HBh35.out.size; omega) (by unfold maxLen; omega) rfl
            have hb := below_alloc v35 (.cells #[] 3)
            have lt_v0 := size_alloc' v35 (.cells #[] 3)
            have hne0 : BN ≠ v35.heap.size := by omega
            obtain ⟨B0, hB0⟩ : ∃ B0 : Nat, B0 = v35.heap.size := ⟨_, rfl⟩
            rw [← hB0] at ho0 ⊢
            have hB0l : B0 ≤ v35.heap.size ∧ v35.heap.size ≤ B0 := by omega
            clear hB0
            generalize hwn : v35.alloc (.cells #[] 3) = v36 at *
            clear hwn
            have sz36 : v35.heap.size ≤ v36.heap.size := hb.size
            replace hit := cell_keep hb hit
            replace nx_0 := cell_keep hb nx_0
            have HBh36 := Lib.hid (HBh35.out.trans (hb.mono (by have := HBh35.out.size; omega)))
            clear hb
            have HO0 := Lib.hid ho0
            clear ho0
            have HNE0 := Lib.hid (show ∀ g, (Value.slice (some ⟨B0, 0, none⟩) 0 0).ownBlock = some g → g ≠ BN from fun g e => by (have e2 : B0 = g := by simpa [Value.ownBlock] using e); omega)
            refine hK.out _ _ ?_ (fun hHeld => ?_)
            · exact hit
            clear hK K
            try simp only [List.getElem_toArray, List.getElem_cons_succ, List.getElem_cons_zero, Act.put, List.setIfInBounds_toArray, List.set_cons_zero, List.set_cons_succ]
            refine wpAnyH_ready (rs := [4]) (by kernel_rfl) (by simp) ?_
            refine AllReadyH.cons rfl (fun K hK => ?_) AllReadyH.nil
            clear hHeld
            refine step_append_any rfl _ _ 23 rfl wr.heap.size 3 i0 (.int .i64 0) 1 8 Try.underlying23 hi hz0 hz1 hz2 rfl (by decide) (Value.slice (some ⟨B0, 0, none⟩) 0 0) (0) ([]) (by rfl) HO0.out ⟨gl, 0, none⟩ kk cp (cs.take kk) (by rfl) (by rw [List.length_take]; omega) (fun j u hj => by rw [Go.WideShapes.add_plain, Nat.zero_add]; exact cell_below HBh36.out (HCL.out j u (take_some hj)) hgl) (fun u hu => HONE.out u (List.mem_of_mem_take hu)) (by unfold maxLen; omega) (by omega) (by have := HBh36.out.size; omega) ?_
            intro u1 v37 hown1 hg hat1
            have nx_00 := nx_0
            have hnb : ∀ g, (Value.slice (some ⟨B0, 0, none⟩) 0 0).ownBlock = some g → BN ≠ g := fun g e => Ne.symm (HNE0.out g e)
            have hrow : ∀ g, (Value.slice (some ⟨B0, 0, none⟩) 0 0).ownBlock = some g → wr.heap.size ≤ g := fun g e => (HO0.out.lt g e).1
            have sz37 : v36.heap.size ≤ v37.heap.size := hg.size
            replace hit := cell_grow hg hit (fun g e => by have := hrow g e; omega)
            replace nx_0 := cell_grow hg nx_0 (fun g e => hnb g e)
            have HBh37 := Lib.hid (HBh36.out.grown hg (by have := HBh36.out.size; omega) (fun g e => hrow g e))
            have HO1 := Lib.hid hown1
            have HNE1 := Lib.hid (show ∀ g, u1.ownBlock = some g → g ≠ BN from fun g e => by (rcases hat1 with e2 | e2); (rw [e2] at e; exact HNE0.out g e); (have h7 : v36.heap.size = g := by (rw [e2] at e; simpa using e)); (have h8 := block_lt_of_cell (a := ⟨BN, 0, none⟩) nx_00); omega)
            clear hown1 hg hat1 hrow hnb
            clear nx_00
            refine hK.out _ _ ?_ (fun hHeld => ?_)
            · exact hit
            clear hK K
            try simp only [List.getElem_toArray, List.getElem_cons_succ, List.getElem_cons_zero, Act.put, List.setIfInBounds_toArray, List.set_cons_zero, List.set_cons_succ]
            refine wpAnyH_ready (rs := [10]) (by kernel_rfl) (by simp) ?_
            refine AllReadyH.cons rfl (fun K hK => ?_) AllReadyH.nil
            clear hHeld
            refine step_append_any rfl _ _ 23 rfl wr.heap.size 3 i0 (.int .i64 0) 1 8 Try.underlying23 hi hz0 hz1 hz2 rfl (by decide) u1 (0 + kk) ([] ++ (cs.take kk)) (by rfl) HO1.out ⟨BN, 0, none⟩ 1 1 [.int .i64 (m9 : Int)] (by rfl) (by rfl) (fun j u hj => by (have h7 : j = 0 := by (have := (List.getElem?_eq_some_iff.1 hj).1; simp at this; exact this)); subst h7; simp at hj; subst hj; simpa [Addr.add] using nx_0) (by simp [Value.oneCell']) (by unfold maxLen; omega) (by omega) (by have := HBh37.out.size; omega) ?_
            intro u2 v38 hown2 hg hat2
            have nx_00 := nx_0
            have hnb : ∀ g, u1.ownBlock = some g → BN ≠ g := fun g e => Ne.symm (HNE1.out g e)
            have hrow : ∀ g, u1.ownBlock = some g → wr.heap.size ≤ g := fun g e => (HO1.out.lt g e).1
            have sz38 : v37.heap.size ≤ v38.heap.size := hg.size
            replace hit := cell_grow hg hit (fun g e => by have := hrow g e; omega)
            replace nx_0 := cell_grow hg nx_0 (fun g e => hnb g e)
            have HBh38 := Lib.hid (HBh37.out.grown hg (by have := HBh37.out.size; omega) (fun g e => hrow g e))
            have HO2 := Lib.hid hown2
            have HNE2 := Lib.hid (show ∀ g, u2.ownBlock = some g → g ≠ BN from fun g e => by (rcases hat2 with e2 | e2); (rw [e2] at e; exact HNE1.out g e); (have h7 : v37.heap.size = g := by (rw [e2] at e; simpa using e)); (have h8 := block_lt_of_cell (a := ⟨BN, 0, none⟩) nx_00); omega)
            clear hown2 hg hat2 hrow hnb
            clear nx_00
            refine hK.out _ _ ?_ (fun hHeld => ?_)
            · exact hit
            clear hK K
            try simp only [List.getElem_toArray, List.getElem_cons_succ, List.getElem_cons_zero, Act.put, List.setIfInBounds_toArray, List.set_cons_zero, List.set_cons_succ]
            refine wpAnyH_ready (rs := [14]) (by kernel_rfl) (by simp) ?_
            refine AllReadyH.cons rfl (fun K hK => ?_) AllReadyH.nil
            clear hHeld
            refine step_append_any rfl _ _ 23 rfl wr.heap.size 3 i0 (.int .i64 0) 1 8 Try.underlying23 hi hz0 hz1 hz2 rfl (by decide) u2 (0 + kk + 1) ([] ++ (cs.take kk) ++ [.int .i64 (m9 : Int)]) (by rfl) HO2.out ⟨gl, kk, none⟩ (k1 - kk) (cp - kk) (cs.drop kk) (by rfl) (by rw [List.length_drop]; omega) (fun j u hj => by rw [Go.WideShapes.add_plain]; exact cell_below HBh38.out (HCL.out (kk + j) u (by rw [List.getElem?_drop] at hj; exact hj)) hgl) (fun u hu => HONE.out u (List.mem_of_mem_drop hu)) (by unfold maxLen; omega) (by omega) (by have := HBh38.out.size; omega) ?_
            intro u3 v39 hown3 hg hat3
            have nx_00 := nx_0
            have hnb : ∀ g, u2.ownBlock = some g → BN ≠ g := fun g e => Ne.symm (HNE2.out g e)
            have hrow : ∀ g, u2.ownBlock = some g → wr.heap.size ≤ g := fun g e => (HO2.out.lt g e).1
            have sz39 : v38.heap.size ≤ v39.heap.size := hg.size
            replace hit := cell_grow hg hit (fun g e => by have := hrow g e; omega)
            replace nx_0 := cell_grow hg nx_0 (fun g e => hnb g e)
            have HBh39 := Lib.hid (HBh38.out.grown hg (by have := HBh38.out.size; omega) (fun g e => hrow g e))
            have HO3 := Lib.hid hown3
            have HNE3 := Lib.hid (show ∀ g, u3.ownBlock = some g → g ≠ BN from fun g e => by (rcases hat3 with e2 | e2); (rw [e2] at e; exact HNE2.out g e); (have h7 : v38.heap.size = g := by (rw [e2] at e; simpa using e)); (have h8 := block_lt_of_cell (a := ⟨BN, 0, none⟩) nx_00); omega)
            clear hown3 hg hat3 hrow hnb
            clear nx_00
            refine hK.out _ _ ?_ (fun hHeld => ?_)
            · exact hit
            clear hK K
            try simp only [List.getElem_toArray, List.getElem_cons_succ, List.getElem_cons_zero, Act.put, List.setIfInBounds_toArray, List.set_cons_zero, List.set_cons_succ]
            refine wpAnyH_take (i := 15) (v := ?_) rfl (by kernel_rfl) (by kernel_rfl) (by kernel_rfl) (fun _ _ _ h => h) (Or.inl ⟨by rfl, ?_⟩) (by assumption) ?_
            rotate_left
            · intro w9 hSw; (try dsimp only at hSw); go_simp; try with_reducible rfl
            try simp only [List.getElem_toArray, List.getElem_cons_succ, List.getElem_cons_zero, Act.put, List.setIfInBounds_toArray, List.set_cons_zero, List.set_cons_succ]
            refine wpAnyH_done (by kernel_rfl) ?_ _
            refine NoPanic.normal ?_
            clear hHeld
            have hfin : v39.ownsRow wr.heap.size 3 1 u3 (k1 + 1) (cs.take kk ++ .int .i64 (m9 : Int) :: cs.drop kk) := by
              have h7 := HO3.out
              rw [show 0 + kk + 1 + (k1 - kk) = k1 + 1 by omega] at h7
              simpa [List.append_assoc] using h7
            obtain ⟨g', cap', hv'⟩ := ownsRow_succ hfin
            subst hv'
            have HFN := Lib.hid (HFIN.out _ v39 hfin)
            have HBN := Lib.hid (HBO.out.trans (HBh39.out.mono hszo))
            clear hfin
            go_wp2_with fail
            go_roundw
            case rel => exact ⟨k1 + 1, g', cap', by omega, by go_num, rfl, HFN.out, HBN.out⟩
            case measure => simp [intOf]; omega
        · obtain rfl : kk = pl := by omega
          have hkn : kk = k1 := by omega
          have k02 : ¬ ((kk : Int) < (k1 : Int)) := by omega
          have HKN := Lib.hid hkn
          have hk1' : kk ≤ cp := by omega
          clear hkn
          by_cases hk2 : cp = kk
          · have HCK := Lib.hid hk2
            obtain ⟨cq, hcq⟩ : ∃ cq : Nat, cq = cp := ⟨_, rfl⟩
            go_wp2_with fail
            refine wp_region_noPanic ?_
            refine wp_region_held_drew (S := fun w' => w'.cell? ⟨w.heap.size, 0, none⟩ = some (.slice (some ⟨bl9, off9, none⟩) rows.length c)) (by kernel_rfl) ?_ (fun hHeld => ?_)
            · exact z0
            have hb : Below wr.heap.size wr wr.drew := (Below.refl _ _).drew
            generalize hwn : wr.drew = v31 at *
            clear hwn
            have sz31 : wr.heap.size ≤ v31.heap.size := hb.size
            replace z0 := cell_keep hb z0
            replace hit := cell_keep hb hit
            have HBh31 := Lib.hid (HBM.out.trans (hb.mono (by have := HBM.out.size; omega)))
            clear hb
            refine wpAnyH_take (i := 0) (v := ?_) rfl (by kernel_rfl) (by kernel_rfl) (by kernel_rfl) (fun _ _ _ h => h) (Or.inl ⟨by rfl, ?_⟩) (by assumption) ?_
            rotate_left
            · intro w9 hSw; (try dsimp only at hSw); go_simp; try with_reducible rfl
            try simp only [List.getElem_toArray, List.getElem_cons_succ, List.getElem_cons_zero, Act.put, List.setIfInBounds_toArray, List.set_cons_zero, List.set_cons_succ]
            refine wpAnyH_take (i := 1) (v := ?_) rfl (by kernel_rfl) (by kernel_rfl) (by kernel_rfl) (fun _ _ _ h => h) (Or.inl ⟨by rfl, ?_⟩) (by assumption) ?_
            rotate_left
            · intro w9 hSw; (try dsimp only at hSw); go_simp; try with_reducible rfl
            try simp only [List.getElem_toArray, List.getElem_cons_succ, List.getElem_cons_zero, Act.put, List.setIfInBounds_toArray, List.set_cons_zero, List.set_cons_succ]
            refine wpAnyH_take (i := 2) (v := ?_) rfl (by kernel_rfl) (by kernel_rfl) (by kernel_rfl) (fun _ _ _ h => h) (Or.inl ⟨by rfl, ?_⟩) (by assumption) ?_
            rotate_left
            · intro w9 hSw; (try dsimp only at hSw); go_simp; try with_reducible rfl
            try simp only [List.getElem_toArray, List.getElem_cons_succ, List.getElem_cons_zero, Act.put, List.setIfInBounds_toArray, List.set_cons_zero, List.set_cons_succ]
            refine wpAnyH_take (i := 3) (v := ?_) rfl (by kernel_rfl) (by kernel_rfl) (by kernel_rfl) (fun _ _ _ h => h) (Or.inl ⟨by rfl, ?_⟩) (by assumption) ?_
            rotate_left
            · intro w9 hSw; (try dsimp only at hSw); go_simp; try with_reducible rfl
            try simp only [List.getElem_toArray, List.getElem_cons_succ, List.getElem_cons_zero, Act.put, List.setIfInBounds_toArray, List.set_cons_zero, List.set_cons_succ]
            refine wpAnyH_take (i := 4) (v := ?_) rfl (by kernel_rfl) (by kernel_rfl) (by kernel_rfl) (fun _ _ _ h => h) (Or.inl ⟨by rfl, ?_⟩) (by assumption) ?_
            rotate_left
            · intro w9 hSw; (try dsimp only at hSw); go_simp; try with_reducible rfl
            try simp only [List.getElem_toArray, List.getElem_cons_succ, List.getElem_cons_zero, Act.put, List.setIfInBounds_toArray, List.set_cons_zero, List.set_cons_succ]
            refine wpAnyH_take (i := 5) (v := undef) rfl (by kernel_rfl) (by kernel_rfl) (by kernel_rfl) (fun _ _ _ h => h) (Or.inr ⟨by rfl, rfl⟩) (by assumption) ?_
            try simp only [List.getElem_toArray, List.getElem_cons_succ, List.getElem_cons_zero, Act.put, List.setIfInBounds_toArray, List.set_cons_zero, List.set_cons_succ]
            refine wpAnyH_take (i := 6) (v := undef) rfl (by kernel_rfl) (by kernel_rfl) (by kernel_rfl) (fun _ _ _ h => h) (Or.inr ⟨by rfl, rfl⟩) (by assumption) ?_
            try simp only [List.getElem_toArray, List.getElem_cons_succ, List.getElem_cons_zero, Act.put, List.setIfInBounds_toArray, List.set_cons_zero, List.set_cons_succ]
            refine wpAnyH_take (i := 7) (v := undef) rfl (by kernel_rfl) (by kernel_rfl) (by kernel_rfl) (fun _ _ _ h => h) (Or.inr ⟨by rfl, rfl⟩) (by assumption) ?_
            try simp only [List.getElem_toArray, List.getElem_cons_succ, List.getElem_cons_zero, Act.put, List.setIfInBounds_toArray, List.set_cons_zero, List.set_cons_succ]
            refine wpAnyH_take (i := 8) (v := undef) rfl (by kernel_rfl) (by kernel_rfl) (by kernel_rfl) (fun _ _ _ h => h) (Or.inr ⟨by rfl, rfl⟩) (by assumption) ?_
            try simp only [List.getElem_toArray, List.getElem_cons_succ, List.getElem_cons_zero, Act.put, List.setIfInBounds_toArray, List.set_cons_zero, List.set_cons_succ]
            refine wpAnyH_take (i := 9) (v := undef) rfl (by kernel_rfl) (by kernel_rfl) (by kernel_rfl) (fun _ _ _ h => h) (Or.inr ⟨by rfl, rfl⟩) (by assumption) ?_
            try simp only [List.getElem_toArray, List.getElem_cons_succ, List.getElem_cons_zero, Act.put, List.setIfInBounds_toArray, List.set_cons_zero, List.set_cons_succ]
            refine wpAnyH_take (i := 10) (v := undef) rfl (by kernel_rfl) (by kernel_rfl) (by kernel_rfl) (fun _ _ _ h => h) (Or.inr ⟨by rfl, rfl⟩) (by assumption) ?_
            try simp only [List.getElem_toArray, List.getElem_cons_succ, List.getElem_cons_zero, Act.put, List.setIfInBounds_toArray, List.set_cons_zero, List.set_cons_succ]
            refine wpAnyH_take (i := 11) (v := undef) rfl (by kernel_rfl) (by kernel_rfl) (by kernel_rfl) (fun _ _ _ h => h) (Or.inr ⟨by rfl, rfl⟩) (by assumption) ?_
            try simp only [List.getElem_toArray, List.getElem_cons_succ, List.getElem_cons_zero, Act.put, List.setIfInBounds_toArray, List.set_cons_zero, List.set_cons_succ]
            refine wpAnyH_take (i := 12) (v := undef) rfl (by kernel_rfl) (by kernel_rfl) (by kernel_rfl) (fun _ _ _ h => h) (Or.inr ⟨by rfl, rfl⟩) (by assumption) ?_
            try simp only [List.getElem_toArray, List.getElem_cons_succ, List.getElem_cons_zero, Act.put, List.setIfInBounds_toArray, List.set_cons_zero, List.set_cons_succ]
            refine wpAnyH_take (i := 13) (v := undef) rfl (by kernel_rfl) (by kernel_rfl) (by kernel_rfl) (fun _ _ _ h => h) (Or.inr ⟨by rfl, rfl⟩) (by assumption) ?_
            try simp only [List.getElem_toArray, List.getElem_cons_succ, List.getElem_cons_zero, Act.put, List.setIfInBounds_toArray, List.set_cons_zero, List.set_cons_succ]
            refine wpAnyH_take (i := 14) (v := undef) rfl (by kernel_rfl) (by kernel_rfl) (by kernel_rfl) (fun _ _ _ h => h) (Or.inr ⟨by rfl, rfl⟩) (by assumption) ?_
            try simp only [List.getElem_toArray, List.getElem_cons_succ, List.getElem_cons_zero, Act.put, List.setIfInBounds_toArray, List.set_cons_zero, List.set_cons_succ]
            refine wpAnyH_take (i := 15) (v := undef) rfl (by kernel_rfl) (by kernel_rfl) (by kernel_rfl) (fun _ _ _ h => h) (Or.inr ⟨by rfl, rfl⟩) (by assumption) ?_
            try simp only [List.getElem_toArray, List.getElem_cons_succ, List.getElem_cons_zero, Act.put, List.setIfInBounds_toArray, List.set_cons_zero, List.set_cons_succ]
            refine wpAnyH_take (i := 16) (v := undef) rfl (by kernel_rfl) (by kernel_rfl) (by kernel_rfl) (fun _ _ _ h => h) (Or.inr ⟨by rfl, rfl⟩) (by assumption) ?_
            try simp only [List.getElem_toArray, List.getElem_cons_succ, List.getElem_cons_zero, Act.put, List.setIfInBounds_toArray, List.set_cons_zero, List.set_cons_succ]
            refine wpAnyH_take (i := 17) (v := undef) rfl (by kernel_rfl) (by kernel_rfl) (by kernel_rfl) (fun _ _ _ h => h) (Or.inr ⟨by rfl, rfl⟩) (by assumption) ?_
            try simp only [List.getElem_toArray, List.getElem_cons_succ, List.getElem_cons_zero, Act.put, List.setIfInBounds_toArray, List.set_cons_zero, List.set_cons_succ]
            refine wpAnyH_take (i := 18) (v := undef) rfl (by kernel_rfl) (by kernel_rfl) (by kernel_rfl) (fun _ _ _ h => h) (Or.inr ⟨by rfl, rfl⟩) (by assumption) ?_
            try simp only [List.getElem_toArray, List.getElem_cons_succ, List.getElem_cons_zero, Act.put, List.setIfInBounds_toArray, List.set_cons_zero, List.set_cons_succ]
            refine wpAnyH_take (i := 19) (v := undef) rfl (by kernel_rfl) (by kernel_rfl) (by kernel_rfl) (fun _ _ _ h => h) (Or.inr ⟨by rfl, rfl⟩) (by assumption) ?_
            try simp only [List.getElem_toArray, List.getElem_cons_succ, List.getElem_cons_zero, Act.put, List.setIfInBounds_toArray, List.set_cons_zero, List.set_cons_succ]
            refine wpAnyH_take (i := 20) (v := undef) rfl (by kernel_rfl) (by kernel_rfl) (by kernel_rfl) (fun _ _ _ h => h) (Or.inr ⟨by rfl, rfl⟩) (by assumption) ?_
            try simp only [List.getElem_toArray, List.getElem_cons_succ, List.getElem_cons_zero, Act.put, List.setIfInBounds_toArray, List.set_cons_zero, List.set_cons_succ]
            refine wpAnyH_take (i := 21) (v := undef) rfl (by kernel_rfl) (by kernel_rfl) (by kernel_rfl) (fun _ _ _ h => h) (Or.inr ⟨by rfl, rfl⟩) (by assumption) ?_
            try simp only [List.getElem_toArray, List.getElem_cons_succ, List.getElem_cons_zero, Act.put, List.setIfInBounds_toArray, List.set_cons_zero, List.set_cons_succ]
            refine wpAnyH_take (i := 22) (v := undef) rfl (by kernel_rfl) (by kernel_rfl) (by kernel_rfl) (fun _ _ _ h => h) (Or.inr ⟨by rfl, rfl⟩) (by assumption) ?_
            try simp only [List.getElem_toArray, List.getElem_cons_succ, List.getElem_cons_zero, Act.put, List.setIfInBounds_toArray, List.set_cons_zero, List.set_cons_succ]
            refine wpAnyH_take (i := 23) (v := undef) rfl (by kernel_rfl) (by kernel_rfl) (by kernel_rfl) (fun _ _ _ h => h) (Or.inr ⟨by rfl, rfl⟩) (by assumption) ?_
            try simp only [List.getElem_toArray, List.getElem_cons_succ, List.getElem_cons_zero, Act.put, List.setIfInBounds_toArray, List.set_cons_zero, List.set_cons_succ]
            refine wpAnyH_take (i := 24) (v := undef) rfl (by kernel_rfl) (by kernel_rfl) (by kernel_rfl) (fun _ _ _ h => h) (Or.inr ⟨by rfl, rfl⟩) (by assumption) ?_
            try simp only [List.getElem_toArray, List.getElem_cons_succ, List.getElem_cons_zero, Act.put, List.setIfInBounds_toArray, List.set_cons_zero, List.set_cons_succ]
            refine wpAnyH_take (i := 25) (v := undef) rfl (by kernel_rfl) (by kernel_rfl) (by kernel_rfl) (fun _ _ _ h => h) (Or.inr ⟨by rfl, rfl⟩) (by assumption) ?_
            try simp only [List.getElem_toArray, List.getElem_cons_succ, List.getElem_cons_zero, Act.put, List.setIfInBounds_toArray, List.set_cons_zero, List.set_cons_succ]
            refine wpAnyH_take (i := 26) (v := ?_) rfl (by kernel_rfl) (by kernel_rfl) (by kernel_rfl) (fun _ _ _ h => h) (Or.inl ⟨by rfl, ?_⟩) (by assumption) ?_
            rotate_left
            · intro w9 hSw; (try dsimp only at hSw); go_simp; try with_reducible rfl
            try simp only [List.getElem_toArray, List.getElem_cons_succ, List.getElem_cons_zero, Act.put, List.setIfInBounds_toArray, List.set_cons_zero, List.set_cons_succ]
            refine wpAnyH_done (by kernel_rfl) ?_ _
            refine NoPanic.normal ?_
            clear hHeld
            go_wp2_with fail
            refine wp_region_noPanic ?_
            refine wp_region_held_drew (S := fun w' => w'.cell? ⟨be, bo + k1, none⟩ = some (.int .i64 (m9 : Int))) (by kernel_rfl) ?_ (fun hHeld => ?_)
            · exact hit
            have hb : Below v31.heap.size v31 v31.drew := (Below.refl _ _).drew
            generalize hwn : v31.drew = v32 at *
            clear hwn
            have sz32 : v31.heap.size ≤ v32.heap.size := hb.size
            replace hit := cell_keep hb hit
            have HBh32 := Lib.hid (HBh31.out.trans (hb.mono (by have := HBh31.out.size; omega)))
            clear hb
            refine wpAnyH_take (i := 1) (v := ?_) rfl (by kernel_rfl) (by kernel_rfl) (by kernel_rfl) (fun _ _ _ h => h) (Or.inl ⟨by rfl, ?_⟩) (by assumption) ?_
            rotate_left
            · intro w9 hSw; (try dsimp only at hSw); go_simp; try with_reducible rfl
            try simp only [List.getElem_toArray, List.getElem_cons_succ, List.getElem_cons_zero, Act.put, List.setIfInBounds_toArray, List.set_cons_zero, List.set_cons_succ]
            refine wpAnyH_take (i := 2) (v := ?_) rfl (by kernel_rfl) (by kernel_rfl) (by kernel_rfl) (fun _ _ _ h => h) (Or.inl ⟨by rfl, ?_⟩) (by assumption) ?_
            rotate_left
            · intro w9 hSw; (try dsimp only at hSw); go_simp; try with_reducible rfl
            try simp only [List.getElem_toArray, List.getElem_cons_succ, List.getElem_cons_zero, Act.put, List.setIfInBounds_toArray, List.set_cons_zero, List.set_cons_succ]
            refine wpAnyH_take (i := 3) (v := ?_) rfl (by kernel_rfl) (by kernel_rfl) (by kernel_rfl) (fun _ _ _ h => h) (Or.inl ⟨by rfl, ?_⟩) (by assumption) ?_
            rotate_left
            · intro w9 hSw; (try dsimp only at hSw); go_simp; try with_reducible rfl
            try simp only [List.getElem_toArray, List.getElem_cons_succ, List.getElem_cons_zero, Act.put, List.setIfInBounds_toArray, List.set_cons_zero, List.set_cons_succ]
            refine wpAnyH_take (i := 5) (v := ?_) rfl (by kernel_rfl) (by kernel_rfl) (by kernel_rfl) (fun _ _ _ h => h) (Or.inl ⟨by rfl, ?_⟩) (by assumption) ?_
            rotate_left
            · intro w9 hSw; (try dsimp only at hSw); go_simp; try with_reducible rfl
            try simp only [List.getElem_toArray, List.getElem_cons_succ, List.getElem_cons_zero, Act.put, List.setIfInBounds_toArray, List.set_cons_zero, List.set_cons_succ]
            refine wpAnyH_take (i := 6) (v := ?_) rfl (by kernel_rfl) (by kernel_rfl) (by kernel_rfl) (fun _ _ _ h => h) (Or.inl ⟨by rfl, ?_⟩) (by assumption) ?_
            rotate_left
            · intro w9 hSw; (try dsimp only at hSw); go_simp; try with_reducible rfl
            try simp only [List.getElem_toArray, List.getElem_cons_succ, List.getElem_cons_zero, Act.put, List.setIfInBounds_toArray, List.set_cons_zero, List.set_cons_succ]
            refine wpAnyH_take (i := 7) (v := ?_) rfl (by kernel_rfl) (by kernel_rfl) (by kernel_rfl) (fun _ _ _ h => h) (Or.inl ⟨by rfl, ?_⟩) (by assumption) ?_
            rotate_left
            · intro w9 hSw; (try dsimp only at hSw); go_simp; try with_reducible rfl
            try simp only [List.getElem_toArray, List.getElem_cons_succ, List.getElem_cons_zero, Act.put, List.setIfInBounds_toArray, List.set_cons_zero, List.set_cons_succ]
            refine wpAnyH_take (i := 8) (v := ?_) rfl (by kernel_rfl) (by kernel_rfl) (by kernel_rfl) (fun _ _ _ h => h) (Or.inl ⟨by rfl, ?_⟩) (by assumption) ?_
            rotate_left
            · intro w9 hSw; (try dsimp only at hSw); go_simp; try with_reducible rfl
            try simp only [List.getElem_toArray, List.getElem_cons_succ, List.getElem_cons_zero, Act.put, List.setIfInBounds_toArray, List.set_cons_zero, List.set_cons_succ]
            refine wpAnyH_take (i := 11) (v := ?_) rfl (by kernel_rfl) (by kernel_rfl) (by kernel_rfl) (fun _ _ _ h => h) (Or.inl ⟨by rfl, ?_⟩) (by assumption) ?_
            rotate_left
            · intro w9 hSw; (try dsimp only at hSw); go_simp; try with_reducible rfl
            try simp only [List.getElem_toArray, List.getElem_cons_succ, List.getElem_cons_zero, Act.put, List.setIfInBounds_toArray, List.set_cons_zero, List.set_cons_succ]
            refine wpAnyH_take (i := 12) (v := ?_) rfl (by kernel_rfl) (by kernel_rfl) (by kernel_rfl) (fun _ _ _ h => h) (Or.inl ⟨by rfl, ?_⟩) (by assumption) ?_
            rotate_left
            · intro w9 hSw; (try dsimp only at hSw); go_simp; try with_reducible rfl
            try simp only [List.getElem_toArray, List.getElem_cons_succ, List.getElem_cons_zero, Act.put, List.setIfInBounds_toArray, List.set_cons_zero, List.set_cons_succ]
            refine wpAnyH_take (i := 13) (v := ?_) rfl (by kernel_rfl) (by kernel_rfl) (by kernel_rfl) (fun _ _ _ h => h) (Or.inl ⟨by rfl, ?_⟩) (by assumption) ?_
            rotate_left
            · intro w9 hSw; (try dsimp only at hSw); go_simp; try with_reducible rfl
            try simp only [List.getElem_toArray, List.getElem_cons_succ, List.getElem_cons_zero, Act.put, List.setIfInBounds_toArray, List.set_cons_zero, List.set_cons_succ]
            refine wpAnyH_ready (rs := [0, 9]) (by kernel_rfl) (by simp) ?_
            refine AllReadyH.cons rfl (fun K hK => ?_) ?_
            · skip
              clear hHeld
              go_simp
              have ho0 : (v32.alloc (.cells #[] 3)).ownsRow wr.heap.size 3 1 (.slice (some ⟨v32.heap.size, 0, none⟩) 0 0) 0 [] := World.ownsRow_made (base := wr.heap.size) (e := 3) (size := 1) v32 #[] 0 (by have := HBh32.out.size; omega) (by unfold maxLen; omega) rfl
              have hb := below_alloc v32 (.cells #[] 3)
              have lt_v0 := size_alloc' v32 (.cells #[] 3)
              obtain ⟨B0, hB0⟩ : ∃ B0 : Nat, B0 = v32.heap.size := ⟨_, rfl⟩
              rw [← hB0] at ho0 ⊢
              have hB0l : B0 ≤ v32.heap.size ∧ v32.heap.size ≤ B0 := by omega
              clear hB0
              generalize hwn : v32.alloc (.cells #[] 3) = v33 at *
              clear hwn
              have sz33 : v32.heap.size ≤ v33.heap.size := hb.size
              replace hit := cell_keep hb hit
              have HBh33 := Lib.hid (HBh32.out.trans (hb.mono (by have := HBh32.out.size; omega)))
              clear hb
              have HO0 := Lib.hid ho0
              clear ho0
              refine hK.out _ _ ?_ (fun hHeld => ?_)
              · exact hit
              clear hK K
              try simp only [List.getElem_toArray, List.getElem_cons_succ, List.getElem_cons_zero, Act.put, List.setIfInBounds_toArray, List.set_cons_zero, List.set_cons_succ]
              refine wpAnyH_ready (rs := [4, 9]) (by kernel_rfl) (by simp) ?_
              refine AllReadyH.cons rfl (fun K hK => ?_) ?_
              · skip
                clear hHeld
                refine step_append_any rfl _ _ 23 rfl wr.heap.size 3 i0 (.int .i64 0) 1 8 Try.underlying23 hi hz0 hz1 hz2 rfl (by decide) (Value.slice (some ⟨B0, 0, none⟩) 0 0) (0) ([]) (by rfl) HO0.out ⟨gl, 0, none⟩ kk kk (cs.take kk) (by rfl) (by rw [List.length_take]; omega) (fun j u hj => by rw [Go.WideShapes.add_plain, Nat.zero_add]; exact cell_below HBh33.out (HCL.out j u (take_some hj)) hgl) (fun u hu => HONE.out u (List.mem_of_mem_take hu)) (by unfold maxLen; omega) (by omega) (by have := HBh33.out.size; omega) ?_
                intro u1 v34 hown1 hg hat1
                have hrow : ∀ g, (Value.slice (some ⟨B0, 0, none⟩) 0 0).ownBlock = some g → wr.heap.size ≤ g := fun g e => (HO0.out.lt g e).1
                have sz34 : v33.heap.size ≤ v34.heap.size := hg.size
                replace hit := cell_grow hg hit (fun g e => by have := hrow g e; omega)
                have HBh34 := Lib.hid (HBh33.out.grown hg (by have := HBh33.out.size; omega) (fun g e => hrow g e))
                have HO1 := Lib.hid hown1
                clear hown1 hg hat1 hrow
                refine hK.out _ _ ?_ (fun hHeld => ?_)
                · exact hit
                clear hK K
                try simp only [List.getElem_toArray, List.getElem_cons_succ, List.getElem_cons_zero, Act.put, List.setIfInBounds_toArray, List.set_cons_zero, List.set_cons_succ]
                refine wpAnyH_ready (rs := [9]) (by kernel_rfl) (by simp) ?_
                refine AllReadyH.cons rfl (fun K hK => ?_) AllReadyH.nil
                clear hHeld
                go_simp
                have nx_0 : (v34.alloc (.cells #[.int .i64 (m9 : Int)] 3)).cell? ⟨v34.heap.size, 0, none⟩ = some (.int .i64 (m9 : Int)) := cell_new _ _ _ rfl rfl
                have HNE1 := Lib.hid (show ∀ g, u1.ownBlock = some g → g ≠ v34.heap.size from fun g e => by have := (HO1.out.lt g e).2; omega)
                replace HO1 := Lib.hid (HO1.out.alloc (.cells #[.int .i64 (m9 : Int)] 3))
                have hb := below_alloc v34 (.cells #[.int .i64 (m9 : Int)] 3)
                have lt_nx := size_alloc' v34 (.cells #[.int .i64 (m9 : Int)] 3)
                obtain ⟨BN, hBN⟩ : ∃ BN : Nat, BN = v34.heap.size := ⟨_, rfl⟩
                rw [← hBN] at nx_0 HNE1 ⊢
                have hBNl : BN ≤ v34.heap.size ∧ v34.heap.size ≤ BN := by omega
                clear hBN
                generalize hwn : v34.alloc (.cells #[.int .i64 (m9 : Int)] 3) = v35 at *
                clear hwn
                have sz35 : v34.heap.size ≤ v35.heap.size := hb.size
                replace hit := cell_keep hb hit
                have HBh35 := Lib.hid (HBh34.out.trans (hb.mono (by have := HBh34.out.size; omega)))
                clear hb
                refine hK.out _ _ ?_ (fun hHeld => ?_)
                · exact hit
                clear hK K
                try simp only [List.getElem_toArray, List.getElem_cons_succ, List.getElem_cons_zero, Act.put, List.setIfInBounds_toArray, List.set_cons_zero, List.set_cons_succ]
                refine wpAnyH_ready (rs := [10]) (by kernel_rfl) (by simp) ?_
                refine AllReadyH.cons rfl (fun K hK => ?_) AllReadyH.nil
                clear hHeld
                refine step_append_any rfl _ _ 23 rfl wr.heap.size 3 i0 (.int .i64 0) 1 8 Try.underlying23 hi hz0 hz1 hz2 rfl (by decide) u1 (0 + kk) ([] ++ (cs.take kk)) (by rfl) HO1.out ⟨BN, 0, none⟩ 1 1 [.int .i64 (m9 : Int)] (by rfl) (by rfl) (fun j u hj => by (have h7 : j = 0 := by (have := (List.getElem?_eq_some_iff.1 hj).1; simp at this; exact this)); subst h7; simp at hj; subst hj; simpa [Addr.add] using nx_0) (by simp [Value.oneCell']) (by unfold maxLen; omega) (by omega) (by have := HBh35.out.size; omega) ?_
                intro u2 v36 hown2 hg hat2
                have nx_00 := nx_0
                have hnb : ∀ g, u1.ownBlock = some g → BN ≠ g := fun g e => Ne.symm (HNE1.out g e)
                have hrow : ∀ g, u1.ownBlock = some g → wr.heap.size ≤ g := fun g e => (HO1.out.lt g e).1
                have sz36 : v35.heap.size ≤ v36.heap.size := hg.size
                replace hit := cell_grow hg hit (fun g e => by have := hrow g e; omega)
                replace nx_0 := cell_grow hg nx_0 (fun g e => hnb g e)
                have HBh36 := Lib.hid (HBh35.out.grown hg (by have := HBh35.out.size; omega) (fun g e => hrow g e))
                have HO2 := Lib.hid hown2
                have HNE2 := Lib.hid (show ∀ g, u2.ownBlock = some g → g ≠ BN from fun g e => by (rcases hat2 with e2 | e2); (rw [e2] at e; exact HNE1.out g e); (have h7 : v35.heap.size = g := by (rw [e2] at e; simpa using e)); (have h8 := block_lt_of_cell (a := ⟨BN, 0, none⟩) nx_00); omega)
                clear hown2 hg hat2 hrow hnb
                clear nx_00
                refine hK.out _ _ ?_ (fun hHeld => ?_)
                · exact hit
                clear hK K
                try simp only [List.getElem_toArray, List.getElem_cons_succ, List.getElem_cons_zero, Act.put, List.setIfInBounds_toArray, List.set_cons_zero, List.set_cons_succ]
                refine wpAnyH_ready (rs := [14]) (by kernel_rfl) (by simp) ?_
                refine AllReadyH.cons rfl (fun K hK => ?_) AllReadyH.nil
                clear hHeld
                refine step_append_any rfl _ _ 23 rfl wr.heap.size 3 i0 (.int .i64 0) 1 8 Try.underlying23 hi hz0 hz1 hz2 rfl (by decide) u2 (0 + kk + 1) ([] ++ (cs.take kk) ++ [.int .i64 (m9 : Int)]) (by rfl) HO2.out ⟨gl, 0, none⟩ (k1 - kk) 0 (cs.drop kk) (by rfl) (by rw [List.length_drop]; omega) (fun j u hj => by have h7 := (List.getElem?_eq_some_iff.1 hj).1; rw [List.length_drop] at h7; have := HKN.out; omega) (fun u hu => HONE.out u (List.mem_of_mem_drop hu)) (by unfold maxLen; omega) (by omega) (by have := HBh36.out.size; omega) ?_
                intro u3 v37 hown3 hg hat3
                have nx_00 := nx_0
                have hnb : ∀ g, u2.ownBlock = some g → BN ≠ g := fun g e => Ne.symm (HNE2.out g e)
                have hrow : ∀ g, u2.ownBlock = some g → wr.heap.size ≤ g := fun g e => (HO2.out.lt g e).1
                have sz37 : v36.heap.size ≤ v37.heap.size := hg.size
                replace hit := cell_grow hg hit (fun g e => by have := hrow g e; omega)
                replace nx_0 := cell_grow hg nx_0 (fun g e => hnb g e)
                have HBh37 := Lib.hid (HBh36.out.grown hg (by have := HBh36.out.size; omega) (fun g e => hrow g e))
                have HO3 := Lib.hid hown3
                have HNE3 := Lib.hid (show ∀ g, u3.ownBlock = some g → g ≠ BN from fun g e => by (rcases hat3 with e2 | e2); (rw [e2] at e; exact HNE2.out g e); (have h7 : v36.heap.size = g := by (rw [e2] at e; simpa using e)); (have h8 := block_lt_of_cell (a := ⟨BN, 0, none⟩) nx_00); omega)
                clear hown3 hg hat3 hrow hnb
                clear nx_00
                refine hK.out _ _ ?_ (fun hHeld => ?_)
                · exact hit
                clear hK K
                try simp only [List.getElem_toArray, List.getElem_cons_succ, List.getElem_cons_zero, Act.put, List.setIfInBounds_toArray, List.set_cons_zero, List.set_cons_succ]
                refine wpAnyH_take (i := 15) (v := ?_) rfl (by kernel_rfl) (by kernel_rfl) (by kernel_rfl) (fun _ _ _ h => h) (Or.inl ⟨by rfl, ?_⟩) (by assumption) ?_
                rotate_left
                · intro w9 hSw; (try dsimp only at hSw); go_simp; try with_reducible rfl
                try simp only [List.getElem_toArray, List.getElem_cons_succ, List.getElem_cons_zero, Act.put, List.setIfInBounds_toArray, List.set_cons_zero, List.set_cons_succ]
                refine wpAnyH_done (by kernel_rfl) ?_ _
                refine NoPanic.normal ?_
                clear hHeld
                have hfin : v37.ownsRow wr.heap.size 3 1 u3 (k1 + 1) (cs.take kk ++ .int .i64 (m9 : Int) :: cs.drop kk) := by
                  have h7 := HO3.out
                  rw [show 0 + kk + 1 + (k1 - kk) = k1 + 1 by omega] at h7
                  simpa [List.append_assoc] using h7
                obtain ⟨g', cap', hv'⟩ := ownsRow_succ hfin
                subst hv'
                have HFN := Lib.hid (HFIN.out _ v37 hfin)
                have HBN := Lib.hid (HBO.out.trans (HBh37.out.mono hszo))
                clear hfin
                go_wp2_with fail
                go_roundw
                case rel => exact ⟨k1 + 1, g', cap', by omega, by go_num, rfl, HFN.out, HBN.out⟩
                case measure => simp [intOf]; omega
              refine AllReadyH.cons rfl (fun K hK => ?_) AllReadyH.nil
              clear hHeld
              go_simp
              have nx_0 : (v33.alloc (.cells #[.int .i64 (m9 : Int)] 3)).cell? ⟨v33.heap.size, 0, none⟩ = some (.int .i64 (m9 : Int)) := cell_new _ _ _ rfl rfl
              have HNE0 := Lib.hid (show ∀ g, (Value.slice (some ⟨B0, 0, none⟩) 0 0).ownBlock = some g → g ≠ v33.heap.size from fun g e => by have := (HO0.out.lt g e).2; omega)
              replace HO0 := Lib.hid (HO0.out.alloc (.cells #[.int .i64 (m9 : Int)] 3))
              have hb := below_alloc v33 (.cells #[.int .i64 (m9 : Int)] 3)
              have lt_nx := size_alloc' v33 (.cells #[.int .i64 (m9 : Int)] 3)
              obtain ⟨BN, hBN⟩ : ∃ BN : Nat, BN = v33.heap.size := ⟨_, rfl⟩
              rw [← hBN] at nx_0 HNE0 ⊢
              have hBNl : BN ≤ v33.heap.size ∧ v33.heap.size ≤ BN := by omega
              clear hBN
              generalize hwn : v33.alloc (.cells #[.int .i64 (m9 : Int)] 3) = v34 at *
              clear hwn
              have sz34 : v33.heap.size ≤ v34.heap.size := hb.size
              replace hit := cell_keep hb hit
              have HBh34 := Lib.hid (HBh33.out.trans (hb.mono (by have := HBh33.out.size; omega)))
              clear hb
              refine hK.out _ _ ?_ (fun hHeld => ?_)
              · exact hit
              clear hK K
              try simp only [List.getElem_toArray, List.getElem_cons_succ, List.getElem_cons_zero, Act.put, List.setIfInBounds_toArray, List.set_cons_zero, List.set_cons_succ]
              refine wpAnyH_ready (rs := [4]) (by kernel_rfl) (by simp) ?_
              refine AllReadyH.cons rfl (fun K hK => ?_) AllReadyH.nil
              clear hHeld
              refine step_append_any rfl _ _ 23 rfl wr.heap.size 3 i0 (.int .i64 0) 1 8 Try.underlying23 hi hz0 hz1 hz2 rfl (by decide) (Value.slice (some ⟨B0, 0, none⟩) 0 0) (0) ([]) (by rfl) HO0.out ⟨gl, 0, none⟩ kk kk (cs.take kk) (by rfl) (by rw [List.length_take]; omega) (fun j u hj => by rw [Go.WideShapes.add_plain, Nat.zero_add]; exact cell_below HBh34.out (HCL.out j u (take_some hj)) hgl) (fun u hu => HONE.out u (List.mem_of_mem_take hu)) (by unfold maxLen; omega) (by omega) (by have := HBh34.out.size; omega) ?_
              intro u1 v35 hown1 hg hat1
              have nx_00 := nx_0
              have hnb : ∀ g, (Value.slice (some ⟨B0, 0, none⟩) 0 0).ownBlock = some g → BN ≠ g := fun g e => Ne.symm (HNE0.out g e)
              have hrow : ∀ g, (Value.slice (some ⟨B0, 0, none⟩) 0 0).ownBlock = some g → wr.heap.size ≤ g := fun g e => (HO0.out.lt g e).1
              have sz35 : v34.heap.size ≤ v35.heap.size := hg.size
              replace hit := cell_grow hg hit (fun g e => by have := hrow g e; omega)
              replace nx_0 := cell_grow hg nx_0 (fun g e => hnb g e)
              have HBh35 := Lib.hid (HBh34.out.grown hg (by have := HBh34.out.size; omega) (fun g e => hrow g e))
              have HO1 := Lib.hid hown1
              have HNE1 := Lib.hid (show ∀ g, u1.ownBlock = some g → g ≠ BN from fun g e => by (rcases hat1 with e2 | e2); (rw [e2] at e; exact HNE0.out g e); (have h7 : v34.heap.size = g := by (rw [e2] at e; simpa using e)); (have h8 := block_lt_of_cell (a := ⟨BN, 0, none⟩) nx_00); omega)
              clear hown1 hg hat1 hrow hnb
              clear nx_00
              refine hK.out _ _ ?_ (fun hHeld => ?_)
              · exact hit
              clear hK K
              try simp only [List.getElem_toArray, List.getElem_cons_succ, List.getElem_cons_zero, Act.put, List.setIfInBounds_toArray, List.set_cons_zero, List.set_cons_succ]
              refine wpAnyH_ready (rs := [10]) (by kernel_rfl) (by simp) ?_
              refine AllReadyH.cons rfl (fun K hK => ?_) AllReadyH.nil
              clear hHeld
              refine step_append_any rfl _ _ 23 rfl wr.heap.size 3 i0 (.int .i64 0) 1 8 Try.underlying23 hi hz0 hz1 hz2 rfl (by decide) u1 (0 + kk) ([] ++ (cs.take kk)) (by rfl) HO1.out ⟨BN, 0, none⟩ 1 1 [.int .i64 (m9 : Int)] (by rfl) (by rfl) (fun j u hj => by (have h7 : j = 0 := by (have := (List.getElem?_eq_some_iff.1 hj).1; simp at this; exact this)); subst h7; simp at hj; subst hj; simpa [Addr.add] using nx_0) (by simp [Value.oneCell']) (by unfold maxLen; omega) (by omega) (by have := HBh35.out.size; omega) ?_
              intro u2 v36 hown2 hg hat2
              have nx_00 := nx_0
              have hnb : ∀ g, u1.ownBlock = some g → BN ≠ g := fun g e => Ne.symm (HNE1.out g e)
              have hrow : ∀ g, u1.ownBlock = some g → wr.heap.size ≤ g := fun g e => (HO1.out.lt g e).1
              have sz36 : v35.heap.size ≤ v36.heap.size := hg.size
              replace hit := cell_grow hg hit (fun g e => by have := hrow g e; omega)
              replace nx_0 := cell_grow hg nx_0 (fun g e => hnb g e)
              have HBh36 := Lib.hid (HBh35.out.grown hg (by have := HBh35.out.size; omega) (fun g e => hrow g e))
              have HO2 := Lib.hid hown2
              have HNE2 := Lib.hid (show ∀ g, u2.ownBlock = some g → g ≠ BN from fun g e => by (rcases hat2 with e2 | e2); (rw [e2] at e; exact HNE1.out g e); (have h7 : v35.heap.size = g := by (rw [e2] at e; simpa using e)); (have h8 := block_lt_of_cell (a := ⟨BN, 0, none⟩) nx_00); omega)
              clear hown2 hg hat2 hrow hnb
              clear nx_00
              refine hK.out _ _ ?_ (fun hHeld => ?_)
              · exact hit
              clear hK K
              try simp only [List.getElem_toArray, List.getElem_cons_succ, List.getElem_cons_zero, Act.put, List.setIfInBounds_toArray, List.set_cons_zero, List.set_cons_succ]
              refine wpAnyH_ready (rs := [14]) (by kernel_rfl) (by simp) ?_
              refine AllReadyH.cons rfl (fun K hK => ?_) AllReadyH.nil
              clear hHeld
              refine step_append_any rfl _ _ 23 rfl wr.heap.size 3 i0 (.int .i64 0) 1 8 Try.underlying23 hi hz0 hz1 hz2 rfl (by decide) u2 (0 + kk + 1) ([] ++ (cs.take kk) ++ [.int .i64 (m9 : Int)]) (by rfl) HO2.out ⟨gl, 0, none⟩ (k1 - kk) 0 (cs.drop kk) (by rfl) (by rw [List.length_drop]; omega) (fun j u hj => by have h7 := (List.getElem?_eq_some_iff.1 hj).1; rw [List.length_drop] at h7; have := HKN.out; omega) (fun u hu => HONE.out u (List.mem_of_mem_drop hu)) (by unfold maxLen; omega) (by omega) (by have := HBh36.out.size; omega) ?_
              intro u3 v37 hown3 hg hat3
              have nx_00 := nx_0
              have hnb : ∀ g, u2.ownBlock = some g → BN ≠ g := fun g e => Ne.symm (HNE2.out g e)
              have hrow : ∀ g, u2.ownBlock = some g → wr.heap.size ≤ g := fun g e => (HO2.out.lt g e).1
              have sz37 : v36.heap.size ≤ v37.heap.size := hg.size
              replace hit := cell_grow hg hit (fun g e => by have := hrow g e; omega)
              replace nx_0 := cell_grow hg nx_0 (fun g e => hnb g e)
              have HBh37 := Lib.hid (HBh36.out.grown hg (by have := HBh36.out.size; omega) (fun g e => hrow g e))
              have HO3 := Lib.hid hown3
              have HNE3 := Lib.hid (show ∀ g, u3.ownBlock = some g → g ≠ BN from fun g e => by (rcases hat3 with e2 | e2); (rw [e2] at e; exact HNE2.out g e); (have h7 : v36.heap.size = g := by (rw [e2] at e; simpa using e)); (have h8 := block_lt_of_cell (a := ⟨BN, 0, none⟩) nx_00); omega)
              clear hown3 hg hat3 hrow hnb
              clear nx_00
              refine hK.out _ _ ?_ (fun hHeld => ?_)
              · exact hit
              clear hK K
              try simp only [List.getElem_toArray, List.getElem_cons_succ, List.getElem_cons_zero, Act.put, List.setIfInBounds_toArray, List.set_cons_zero, List.set_cons_succ]
              refine wpAnyH_take (i := 15) (v := ?_) rfl (by kernel_rfl) (by kernel_rfl) (by kernel_rfl) (fun _ _ _ h => h) (Or.inl ⟨by rfl, ?_⟩) (by assumption) ?_
              rotate_left
              · intro w9 hSw; (try dsimp only at hSw); go_simp; try with_reducible rfl
              try simp only [List.getElem_toArray, List.getElem_cons_succ, List.getElem_cons_zero, Act.put, List.setIfInBounds_toArray, List.set_cons_zero, List.set_cons_succ]
              refine wpAnyH_done (by kernel_rfl) ?_ _
              refine NoPanic.normal ?_
              clear hHeld
              have hfin : v37.ownsRow wr.heap.size 3 1 u3 (k1 + 1) (cs.take kk ++ .int .i64 (m9 : Int) :: cs.drop kk) := by
                have h7 := HO3.out
                rw [show 0 + kk + 1 + (k1 - kk) = k1 + 1 by omega] at h7
                simpa [List.append_assoc] using h7
              obtain ⟨g', cap', hv'⟩ := ownsRow_succ hfin
              subst hv'
              have HFN := Lib.hid (HFIN.out _ v37 hfin)
              have HBN := Lib.hid (HBO.out.trans (HBh37.out.mono hszo))
              clear hfin
              go_wp2_with fail
              go_roundw
              case rel => exact ⟨k1 + 1, g', cap', by omega, by go_num, rfl, HFN.out, HBN.out⟩
              case measure => simp [intOf]; omega
            refine AllReadyH.cons rfl (fun K hK => ?_) AllReadyH.nil
            clear hHeld
            go_simp
            have nx_0 : (v32.alloc (.cells #[.int .i64 (m9 : Int)] 3)).cell? ⟨v32.heap.size, 0, none⟩ = some (.int .i64 (m9 : Int)) := cell_new _ _ _ rfl rfl
            have hb := below_alloc v32 (.cells #[.int .i64 (m9 : Int)] 3)
            have lt_nx := size_alloc' v32 (.cells #[.int .i64 (m9 : Int)] 3)
            obtain ⟨BN, hBN⟩ : ∃ BN : Nat, BN = v32.heap.size := ⟨_, rfl⟩
            rw [← hBN] at nx_0  ⊢
            have hBNl : BN ≤ v32.heap.size ∧ v32.heap.size ≤ BN := by omega
            clear hBN
            generalize hwn : v32.alloc (.cells #[.int .i64 (m9 : Int)] 3) = v33 at *
            clear hwn
            have sz33 : v32.heap.size ≤ v33.heap.size := hb.size
            replace hit := cell_keep hb hit
            have HBh33 := Lib.hid (HBh32.out.trans (hb.mono (by have := HBh32.out.size; omega)))
            clear hb
            refine hK.out _ _ ?_ (fun hHeld => ?_)
            · exact hit
            clear hK K
            try simp only [List.getElem_toArray, List.getElem_cons_succ, List.getElem_cons_zero, Act.put, List.setIfInBounds_toArray, List.set_cons_zero, List.set_cons_succ]
            refine wpAnyH_ready (rs := [0]) (by kernel_rfl) (by simp) ?_
            refine AllReadyH.cons rfl (fun K hK => ?_) AllReadyH.nil
            clear hHeld
            go_simp
            have ho0 : (v33.alloc (.cells #[] 3)).ownsRow wr.heap.size 3 1 (.slice (some ⟨v33.heap.size, 0, none⟩) 0 0) 0 [] := World.ownsRow_made (base := wr.heap.size) (e := 3) (size := 1) v33 #[] 0 (by have := HBh33.out.size; omega) (by unfold maxLen; omega) rfl
            have hb := below_alloc v33 (.cells #[] 3)
            have lt_v0 := size_alloc' v33 (.cells #[] 3)
            have hne0 : BN ≠ v33.heap.size := by omega
            obtain ⟨B0, hB0⟩ : ∃ B0 : Nat, B0 = v33.heap.size := ⟨_, rfl⟩
            rw [← hB0] at ho0 ⊢
            have hB0l : B0 ≤ v33.heap.size ∧ v33.heap.size ≤ B0 := by omega
            clear hB0
            generalize hwn : v33.alloc (.cells #[] 3) = v34 at *
            clear hwn
            have sz34 : v33.heap.size ≤ v34.heap.size := hb.size
            replace hit := cell_keep hb hit
            replace nx_0 := cell_keep hb nx_0
            have HBh34 := Lib.hid (HBh33.out.trans (hb.mono (by have := HBh33.out.size; omega)))
            clear hb
            have HO0 := Lib.hid ho0
            clear ho0
            have HNE0 := Lib.hid (show ∀ g, (Value.slice (some ⟨B0, 0, none⟩) 0 0).ownBlock = some g → g ≠ BN from fun g e => by (have e2 : B0 = g := by simpa [Value.ownBlock] using e); omega)
            refine hK.out _ _ ?_ (fun hHeld => ?_)
            · exact hit
            clear hK K
            try simp only [List.getElem_toArray, List.getElem_cons_succ, List.getElem_cons_zero, Act.put, List.setIfInBounds_toArray, List.set_cons_zero, List.set_cons_succ]
            refine wpAnyH_ready (rs := [4]) (by kernel_rfl) (by simp) ?_
            refine AllReadyH.cons rfl (fun K hK => ?_) AllReadyH.nil
            clear hHeld
            refine step_append_any rfl _ _ 23 rfl wr.heap.size 3 i0 (.int .i64 0) 1 8 Try.underlying23 hi hz0 hz1 hz2 rfl (by decide) (Value.slice (some ⟨B0, 0, none⟩) 0 0) (0) ([]) (by rfl) HO0.out ⟨gl, 0, none⟩ kk kk (cs.take kk) (by rfl) (by rw [List.length_take]; omega) (fun j u hj => by rw [Go.WideShapes.add_plain, Nat.zero_add]; exact cell_below HBh34.out (HCL.out j u (take_some hj)) hgl) (fun u hu => HONE.out u (List.mem_of_mem_take hu)) (by unfold maxLen; omega) (by omega) (by have := HBh34.out.size; omega) ?_
            intro u1 v35 hown1 hg hat1
            have nx_00 := nx_0
            have hnb : ∀ g, (Value.slice (some ⟨B0, 0, none⟩) 0 0).ownBlock = some g → BN ≠ g := fun g e => Ne.symm (HNE0.out g e)
            have hrow : ∀ g, (Value.slice (some ⟨B0, 0, none⟩) 0 0).ownBlock = some g → wr.heap.size ≤ g := fun g e => (HO0.out.lt g e).1
            have sz35 : v34.heap.size ≤ v35.heap.size := hg.size
            replace hit := cell_grow hg hit (fun g e => by have := hrow g e; omega)
            replace nx_0 := cell_grow hg nx_0 (fun g e => hnb g e)
            have HBh35 := Lib.hid (HBh34.out.grown hg (by have := HBh34.out.size; omega) (fun g e => hrow g e))
            have HO1 := Lib.hid hown1
            have HNE1 := Lib.hid (show ∀ g, u1.ownBlock = some g → g ≠ BN from fun g e => by (rcases hat1 with e2 | e2); (rw [e2] at e; exact HNE0.out g e); (have h7 : v34.heap.size = g := by (rw [e2] at e; simpa using e)); (have h8 := block_lt_of_cell (a := ⟨BN, 0, none⟩) nx_00); omega)
            clear hown1 hg hat1 hrow hnb
            clear nx_00
            refine hK.out _ _ ?_ (fun hHeld => ?_)
            · exact hit
            clear hK K
            try simp only [List.getElem_toArray, List.getElem_cons_succ, List.getElem_cons_zero, Act.put, List.setIfInBounds_toArray, List.set_cons_zero, List.set_cons_succ]
            refine wpAnyH_ready (rs := [10]) (by kernel_rfl) (by simp) ?_
            refine AllReadyH.cons rfl (fun K hK => ?_) AllReadyH.nil
            clear hHeld
            refine step_append_any rfl _ _ 23 rfl wr.heap.size 3 i0 (.int .i64 0) 1 8 Try.underlying23 hi hz0 hz1 hz2 rfl (by decide) u1 (0 + kk) ([] ++ (cs.take kk)) (by rfl) HO1.out ⟨BN, 0, none⟩ 1 1 [.int .i64 (m9 : Int)] (by rfl) (by rfl) (fun j u hj => by (have h7 : j = 0 := by (have := (List.getElem?_eq_some_iff.1 hj).1; simp at this; exact this)); subst h7; simp at hj; subst hj; simpa [Addr.add] using nx_0) (by simp [Value.oneCell']) (by unfold maxLen; omega) (by omega) (by have := HBh35.out.size; omega) ?_
            intro u2 v36 hown2 hg hat2
            have nx_00 := nx_0
            have hnb : ∀ g, u1.ownBlock = some g → BN ≠ g := fun g e => Ne.symm (HNE1.out g e)
            have hrow : ∀ g, u1.ownBlock = some g → wr.heap.size ≤ g := fun g e => (HO1.out.lt g e).1
            have sz36 : v35.heap.size ≤ v36.heap.size := hg.size
            replace hit := cell_grow hg hit (fun g e => by have := hrow g e; omega)
            replace nx_0 := cell_grow hg nx_0 (fun g e => hnb g e)
            have HBh36 := Lib.hid (HBh35.out.grown hg (by have := HBh35.out.size; omega) (fun g e => hrow g e))
            have HO2 := Lib.hid hown2
            have HNE2 := Lib.hid (show ∀ g, u2.ownBlock = some g → g ≠ BN from fun g e => by (rcases hat2 with e2 | e2); (rw [e2] at e; exact HNE1.out g e); (have h7 : v35.heap.size = g := by (rw [e2] at e; simpa using e)); (have h8 := block_lt_of_cell (a := ⟨BN, 0, none⟩) nx_00); omega)
            clear hown2 hg hat2 hrow hnb
            clear nx_00
            refine hK.out _ _ ?_ (fun hHeld => ?_)
            · exact hit
            clear hK K
            try simp only [List.getElem_toArray, List.getElem_cons_succ, List.getElem_cons_zero, Act.put, List.setIfInBounds_toArray, List.set_cons_zero, List.set_cons_succ]
            refine wpAnyH_ready (rs := [14]) (by kernel_rfl) (by simp) ?_
            refine AllReadyH.cons rfl (fun K hK => ?_) AllReadyH.nil
            clear hHeld
            refine step_append_any rfl _ _ 23 rfl wr.heap.size 3 i0 (.int .i64 0) 1 8 Try.underlying23 hi hz0 hz1 hz2 rfl (by decide) u2 (0 + kk + 1) ([] ++ (cs.take kk) ++ [.int .i64 (m9 : Int)]) (by rfl) HO2.out ⟨gl, 0, none⟩ (k1 - kk) 0 (cs.drop kk) (by rfl) (by rw [List.length_drop]; omega) (fun j u hj => by have h7 := (List.getElem?_eq_some_iff.1 hj).1; rw [List.length_drop] at h7; have := HKN.out; omega) (fun u hu => HONE.out u (List.mem_of_mem_drop hu)) (by unfold maxLen; omega) (by omega) (by have := HBh36.out.size; omega) ?_
            intro u3 v37 hown3 hg hat3
            have nx_00 := nx_0
            have hnb : ∀ g, u2.ownBlock = some g → BN ≠ g := fun g e => Ne.symm (HNE2.out g e)
            have hrow : ∀ g, u2.ownBlock = some g → wr.heap.size ≤ g := fun g e => (HO2.out.lt g e).1
            have sz37 : v36.heap.size ≤ v37.heap.size := hg.size
            replace hit := cell_grow hg hit (fun g e => by have := hrow g e; omega)
            replace nx_0 := cell_grow hg nx_0 (fun g e => hnb g e)
            have HBh37 := Lib.hid (HBh36.out.grown hg (by have := HBh36.out.size; omega) (fun g e => hrow g e))
            have HO3 := Lib.hid hown3
            have HNE3 := Lib.hid (show ∀ g, u3.ownBlock = some g → g ≠ BN from fun g e => by (rcases hat3 with e2 | e2); (rw [e2] at e; exact HNE2.out g e); (have h7 : v36.heap.size = g := by (rw [e2] at e; simpa using e)); (have h8 := block_lt_of_cell (a := ⟨BN, 0, none⟩) nx_00); omega)
            clear hown3 hg hat3 hrow hnb
            clear nx_00
            refine hK.out _ _ ?_ (fun hHeld => ?_)
            · exact hit
            clear hK K
            try simp only [List.getElem_toArray, List.getElem_cons_succ, List.getElem_cons_zero, Act.put, List.setIfInBounds_toArray, List.set_cons_zero, List.set_cons_succ]
            refine wpAnyH_take (i := 15) (v := ?_) rfl (by kernel_rfl) (by kernel_rfl) (by kernel_rfl) (fun _ _ _ h => h) (Or.inl ⟨by rfl, ?_⟩) (by assumption) ?_
            rotate_left
            · intro w9 hSw; (try dsimp only at hSw); go_simp; try with_reducible rfl
            try simp only [List.getElem_toArray, List.getElem_cons_succ, List.getElem_cons_zero, Act.put, List.setIfInBounds_toArray, List.set_cons_zero, List.set_cons_succ]
            refine wpAnyH_done (by kernel_rfl) ?_ _
            refine NoPanic.normal ?_
            clear hHeld
            have hfin : v37.ownsRow wr.heap.size 3 1 u3 (k1 + 1) (cs.take kk ++ .int .i64 (m9 : Int) :: cs.drop kk) := by
              have h7 := HO3.out
              rw [show 0 + kk + 1 + (k1 - kk) = k1 + 1 by omega] at h7
              simpa [List.append_assoc] using h7
            obtain ⟨g', cap', hv'⟩ := ownsRow_succ hfin
            subst hv'
            have HFN := Lib.hid (HFIN.out _ v37 hfin)
            have HBN := Lib.hid (HBO.out.trans (HBh37.out.mono hszo))
            clear hfin
            go_wp2_with fail
            go_roundw
            case rel => exact ⟨k1 + 1, g', cap', by omega, by go_num, rfl, HFN.out, HBN.out⟩
            case measure => simp [intOf]; omega
          · skip
            go_wp2_with fail
            refine wp_region_noPanic ?_
            refine wp_region_held_drew (S := fun w' => w'.cell? ⟨w.heap.size, 0, none⟩ = some (.slice (some ⟨bl9, off9, none⟩) rows.length c)) (by kernel_rfl) ?_ (fun hHeld => ?_)
            · exact z0
            have hb : Below wr.heap.size wr wr.drew := (Below.refl _ _).drew
            generalize hwn : wr.drew = v31 at *
            clear hwn
            have sz31 : wr.heap.size ≤ v31.heap.size := hb.size
            replace z0 := cell_keep hb z0
            replace hit := cell_keep hb hit
            have HBh31 := Lib.hid (HBM.out.trans (hb.mono (by have := HBM.out.size; omega)))
            clear hb
            refine wpAnyH_take (i := 0) (v := ?_) rfl (by kernel_rfl) (by kernel_rfl) (by kernel_rfl) (fun _ _ _ h => h) (Or.inl ⟨by rfl, ?_⟩) (by assumption) ?_
            rotate_left
            · intro w9 hSw; (try dsimp only at hSw); go_simp; try with_reducible rfl
            try simp only [List.getElem_toArray, List.getElem_cons_succ, List.getElem_cons_zero, Act.put, List.setIfInBounds_toArray, List.set_cons_zero, List.set_cons_succ]
            refine wpAnyH_take (i := 1) (v := ?_) rfl (by kernel_rfl) (by kernel_rfl) (by kernel_rfl) (fun _ _ _ h => h) (Or.inl ⟨by rfl, ?_⟩) (by assumption) ?_
            rotate_left
            · intro w9 hSw; (try dsimp only at hSw); go_simp; try with_reducible rfl
            try simp only [List.getElem_toArray, List.getElem_cons_succ, List.getElem_cons_zero, Act.put, List.setIfInBounds_toArray, List.set_cons_zero, List.set_cons_succ]
            refine wpAnyH_take (i := 2) (v := ?_) rfl (by kernel_rfl) (by kernel_rfl) (by kernel_rfl) (fun _ _ _ h => h) (Or.inl ⟨by rfl, ?_⟩) (by assumption) ?_
            rotate_left
            · intro w9 hSw; (try dsimp only at hSw); go_simp; try with_reducible rfl
            try simp only [List.getElem_toArray, List.getElem_cons_succ, List.getElem_cons_zero, Act.put, List.setIfInBounds_toArray, List.set_cons_zero, List.set_cons_succ]
            refine wpAnyH_take (i := 3) (v := ?_) rfl (by kernel_rfl) (by kernel_rfl) (by kernel_rfl) (fun _ _ _ h => h) (Or.inl ⟨by rfl, ?_⟩) (by assumption) ?_
            rotate_left
            · intro w9 hSw; (try dsimp only at hSw); go_simp; try with_reducible rfl
            try simp only [List.getElem_toArray, List.getElem_cons_succ, List.getElem_cons_zero, Act.put, List.setIfInBounds_toArray, List.set_cons_zero, List.set_cons_succ]
            refine wpAnyH_take (i := 4) (v := ?_) rfl (by kernel_rfl) (by kernel_rfl) (by kernel_rfl) (fun _ _ _ h => h) (Or.inl ⟨by rfl, ?_⟩) (by assumption) ?_
            rotate_left
            · intro w9 hSw; (try dsimp only at hSw); go_simp; try with_reducible rfl
            try simp only [List.getElem_toArray, List.getElem_cons_succ, List.getElem_cons_zero, Act.put, List.setIfInBounds_toArray, List.set_cons_zero, List.set_cons_succ]
            refine wpAnyH_take (i := 5) (v := undef) rfl (by kernel_rfl) (by kernel_rfl) (by kernel_rfl) (fun _ _ _ h => h) (Or.inr ⟨by rfl, rfl⟩) (by assumption) ?_
            try simp only [List.getElem_toArray, List.getElem_cons_succ, List.getElem_cons_zero, Act.put, List.setIfInBounds_toArray, List.set_cons_zero, List.set_cons_succ]
            refine wpAnyH_take (i := 6) (v := undef) rfl (by kernel_rfl) (by kernel_rfl) (by kernel_rfl) (fun _ _ _ h => h) (Or.inr ⟨by rfl, rfl⟩) (by assumption) ?_
            try simp only [List.getElem_toArray, List.getElem_cons_succ, List.getElem_cons_zero, Act.put, List.setIfInBounds_toArray, List.set_cons_zero, List.set_cons_succ]
            refine wpAnyH_take (i := 7) (v := undef) rfl (by kernel_rfl) (by kernel_rfl) (by kernel_rfl) (fun _ _ _ h => h) (Or.inr ⟨by rfl, rfl⟩) (by assumption) ?_
            try simp only [List.getElem_toArray, List.getElem_cons_succ, List.getElem_cons_zero, Act.put, List.setIfInBounds_toArray, List.set_cons_zero, List.set_cons_succ]
            refine wpAnyH_take (i := 8) (v := undef) rfl (by kernel_rfl) (by kernel_rfl) (by kernel_rfl) (fun _ _ _ h => h) (Or.inr ⟨by rfl, rfl⟩) (by assumption) ?_
            try simp only [List.getElem_toArray, List.getElem_cons_succ, List.getElem_cons_zero, Act.put, List.setIfInBounds_toArray, List.set_cons_zero, List.set_cons_succ]
            refine wpAnyH_take (i := 9) (v := undef) rfl (by kernel_rfl) (by kernel_rfl) (by kernel_rfl) (fun _ _ _ h => h) (Or.inr ⟨by rfl, rfl⟩) (by assumption) ?_
            try simp only [List.getElem_toArray, List.getElem_cons_succ, List.getElem_cons_zero, Act.put, List.setIfInBounds_toArray, List.set_cons_zero, List.set_cons_succ]
            refine wpAnyH_take (i := 10) (v := undef) rfl (by kernel_rfl) (by kernel_rfl) (by kernel_rfl) (fun _ _ _ h => h) (Or.inr ⟨by rfl, rfl⟩) (by assumption) ?_
            try simp only [List.getElem_toArray, List.getElem_cons_succ, List.getElem_cons_zero, Act.put, List.setIfInBounds_toArray, List.set_cons_zero, List.set_cons_succ]
            refine wpAnyH_take (i := 11) (v := undef) rfl (by kernel_rfl) (by kernel_rfl) (by kernel_rfl) (fun _ _ _ h => h) (Or.inr ⟨by rfl, rfl⟩) (by assumption) ?_
            try simp only [List.getElem_toArray, List.getElem_cons_succ, List.getElem_cons_zero, Act.put, List.setIfInBounds_toArray, List.set_cons_zero, List.set_cons_succ]
            refine wpAnyH_take (i := 12) (v := undef) rfl (by kernel_rfl) (by kernel_rfl) (by kernel_rfl) (fun _ _ _ h => h) (Or.inr ⟨by rfl, rfl⟩) (by assumption) ?_
            try simp only [List.getElem_toArray, List.getElem_cons_succ, List.getElem_cons_zero, Act.put, List.setIfInBounds_toArray, List.set_cons_zero, List.set_cons_succ]
            refine wpAnyH_take (i := 13) (v := undef) rfl (by kernel_rfl) (by kernel_rfl) (by kernel_rfl) (fun _ _ _ h => h) (Or.inr ⟨by rfl, rfl⟩) (by assumption) ?_
            try simp only [List.getElem_toArray, List.getElem_cons_succ, List.getElem_cons_zero, Act.put, List.setIfInBounds_toArray, List.set_cons_zero, List.set_cons_succ]
            refine wpAnyH_take (i := 14) (v := undef) rfl (by kernel_rfl) (by kernel_rfl) (by kernel_rfl) (fun _ _ _ h => h) (Or.inr ⟨by rfl, rfl⟩) (by assumption) ?_
            try simp only [List.getElem_toArray, List.getElem_cons_succ, List.getElem_cons_zero, Act.put, List.setIfInBounds_toArray, List.set_cons_zero, List.set_cons_succ]
            refine wpAnyH_take (i := 15) (v := undef) rfl (by kernel_rfl) (by kernel_rfl) (by kernel_rfl) (fun _ _ _ h => h) (Or.inr ⟨by rfl, rfl⟩) (by assumption) ?_
            try simp only [List.getElem_toArray, List.getElem_cons_succ, List.getElem_cons_zero, Act.put, List.setIfInBounds_toArray, List.set_cons_zero, List.set_cons_succ]
            refine wpAnyH_take (i := 16) (v := undef) rfl (by kernel_rfl) (by kernel_rfl) (by kernel_rfl) (fun _ _ _ h => h) (Or.inr ⟨by rfl, rfl⟩) (by assumption) ?_
            try simp only [List.getElem_toArray, List.getElem_cons_succ, List.getElem_cons_zero, Act.put, List.setIfInBounds_toArray, List.set_cons_zero, List.set_cons_succ]
            refine wpAnyH_take (i := 17) (v := undef) rfl (by kernel_rfl) (by kernel_rfl) (by kernel_rfl) (fun _ _ _ h => h) (Or.inr ⟨by rfl, rfl⟩) (by assumption) ?_
            try simp only [List.getElem_toArray, List.getElem_cons_succ, List.getElem_cons_zero, Act.put, List.setIfInBounds_toArray, List.set_cons_zero, List.set_cons_succ]
            refine wpAnyH_take (i := 18) (v := undef) rfl (by kernel_rfl) (by kernel_rfl) (by kernel_rfl) (fun _ _ _ h => h) (Or.inr ⟨by rfl, rfl⟩) (by assumption) ?_
            try simp only [List.getElem_toArray, List.getElem_cons_succ, List.getElem_cons_zero, Act.put, List.setIfInBounds_toArray, List.set_cons_zero, List.set_cons_succ]
            refine wpAnyH_take (i := 19) (v := undef) rfl (by kernel_rfl) (by kernel_rfl) (by kernel_rfl) (fun _ _ _ h => h) (Or.inr ⟨by rfl, rfl⟩) (by assumption) ?_
            try simp only [List.getElem_toArray, List.getElem_cons_succ, List.getElem_cons_zero, Act.put, List.setIfInBounds_toArray, List.set_cons_zero, List.set_cons_succ]
            refine wpAnyH_take (i := 20) (v := undef) rfl (by kernel_rfl) (by kernel_rfl) (by kernel_rfl) (fun _ _ _ h => h) (Or.inr ⟨by rfl, rfl⟩) (by assumption) ?_
            try simp only [List.getElem_toArray, List.getElem_cons_succ, List.getElem_cons_zero, Act.put, List.setIfInBounds_toArray, List.set_cons_zero, List.set_cons_succ]
            refine wpAnyH_take (i := 21) (v := undef) rfl (by kernel_rfl) (by kernel_rfl) (by kernel_rfl) (fun _ _ _ h => h) (Or.inr ⟨by rfl, rfl⟩) (by assumption) ?_
            try simp only [List.getElem_toArray, List.getElem_cons_succ, List.getElem_cons_zero, Act.put, List.setIfInBounds_toArray, List.set_cons_zero, List.set_cons_succ]
            refine wpAnyH_take (i := 22) (v := undef) rfl (by kernel_rfl) (by kernel_rfl) (by kernel_rfl) (fun _ _ _ h => h) (Or.inr ⟨by rfl, rfl⟩) (by assumption) ?_
            try simp only [List.getElem_toArray, List.getElem_cons_succ, List.getElem_cons_zero, Act.put, List.setIfInBounds_toArray, List.set_cons_zero, List.set_cons_succ]
            refine wpAnyH_take (i := 23) (v := undef) rfl (by kernel_rfl) (by kernel_rfl) (by kernel_rfl) (fun _ _ _ h => h) (Or.inr ⟨by rfl, rfl⟩) (by assumption) ?_
            try simp only [List.getElem_toArray, List.getElem_cons_succ, List.getElem_cons_zero, Act.put, List.setIfInBounds_toArray, List.set_cons_zero, List.set_cons_succ]
            refine wpAnyH_take (i := 24) (v := undef) rfl (by kernel_rfl) (by kernel_rfl) (by kernel_rfl) (fun _ _ _ h => h) (Or.inr ⟨by rfl, rfl⟩) (by assumption) ?_
            try simp only [List.getElem_toArray, List.getElem_cons_succ, List.getElem_cons_zero, Act.put, List.setIfInBounds_toArray, List.set_cons_zero, List.set_cons_succ]
            refine wpAnyH_take (i := 25) (v := undef) rfl (by kernel_rfl) (by kernel_rfl) (by kernel_rfl) (fun _ _ _ h => h) (Or.inr ⟨by rfl, rfl⟩) (by assumption) ?_
            try simp only [List.getElem_toArray, List.getElem_cons_succ, List.getElem_cons_zero, Act.put, List.setIfInBounds_toArray, List.set_cons_zero, List.set_cons_succ]
            refine wpAnyH_take (i := 26) (v := ?_) rfl (by kernel_rfl) (by kernel_rfl) (by kernel_rfl) (fun _ _ _ h => h) (Or.inl ⟨by rfl, ?_⟩) (by assumption) ?_
            rotate_left
            · intro w9 hSw; (try dsimp only at hSw); go_simp; try with_reducible rfl
            try simp only [List.getElem_toArray, List.getElem_cons_succ, List.getElem_cons_zero, Act.put, List.setIfInBounds_toArray, List.set_cons_zero, List.set_cons_succ]
            refine wpAnyH_done (by kernel_rfl) ?_ _
            refine NoPanic.normal ?_
            clear hHeld
            go_wp2_with fail
            refine wp_region_noPanic ?_
            refine wp_region_held_drew (S := fun w' => w'.cell? ⟨be, bo + k1, none⟩ = some (.int .i64 (m9 : Int))) (by kernel_rfl) ?_ (fun hHeld => ?_)
            · exact hit
            have hb : Below v31.heap.size v31 v31.drew := (Below.refl _ _).drew
            generalize hwn : v31.drew = v32 at *
            clear hwn
            have sz32 : v31.heap.size ≤ v32.heap.size := hb.size
            replace hit := cell_keep hb hit
            have HBh32 := Lib.hid (HBh31.out.trans (hb.mono (by have := HBh31.out.size; omega)))
            clear hb
            refine wpAnyH_take (i := 1) (v := ?_) rfl (by kernel_rfl) (by kernel_rfl) (by kernel_rfl) (fun _ _ _ h => h) (Or.inl ⟨by rfl, ?_⟩) (by assumption) ?_
            rotate_left
            · intro w9 hSw; (try dsimp only at hSw); go_simp; try with_reducible rfl
            try simp only [List.getElem_toArray, List.getElem_cons_succ, List.getElem_cons_zero, Act.put, List.setIfInBounds_toArray, List.set_cons_zero, List.set_cons_succ]
            refine wpAnyH_take (i := 2) (v := ?_) rfl (by kernel_rfl) (by kernel_rfl) (by kernel_rfl) (fun _ _ _ h => h) (Or.inl ⟨by rfl, ?_⟩) (by assumption) ?_
            rotate_left
            · intro w9 hSw; (try dsimp only at hSw); go_simp; try with_reducible rfl
            try simp only [List.getElem_toArray, List.getElem_cons_succ, List.getElem_cons_zero, Act.put, List.setIfInBounds_toArray, List.set_cons_zero, List.set_cons_succ]
            refine wpAnyH_take (i := 3) (v := ?_) rfl (by kernel_rfl) (by kernel_rfl) (by kernel_rfl) (fun _ _ _ h => h) (Or.inl ⟨by rfl, ?_⟩) (by assumption) ?_
            rotate_left
            · intro w9 hSw; (try dsimp only at hSw); go_simp; try with_reducible rfl
            try simp only [List.getElem_toArray, List.getElem_cons_succ, List.getElem_cons_zero, Act.put, List.setIfInBounds_toArray, List.set_cons_zero, List.set_cons_succ]
            refine wpAnyH_take (i := 5) (v := ?_) rfl (by kernel_rfl) (by kernel_rfl) (by kernel_rfl) (fun _ _ _ h => h) (Or.inl ⟨by rfl, ?_⟩) (by assumption) ?_
            rotate_left
            · intro w9 hSw; (try dsimp only at hSw); go_simp; try with_reducible rfl
            try simp only [List.getElem_toArray, List.getElem_cons_succ, List.getElem_cons_zero, Act.put, List.setIfInBounds_toArray, List.set_cons_zero, List.set_cons_succ]
            refine wpAnyH_take (i := 6) (v := ?_) rfl (by kernel_rfl) (by kernel_rfl) (by kernel_rfl) (fun _ _ _ h => h) (Or.inl ⟨by rfl, ?_⟩) (by assumption) ?_
            rotate_left
            · intro w9 hSw; (try dsimp only at hSw); go_simp; try with_reducible rfl
            try simp only [List.getElem_toArray, List.getElem_cons_succ, List.getElem_cons_zero, Act.put, List.setIfInBounds_toArray, List.set_cons_zero, List.set_cons_succ]
            refine wpAnyH_take (i := 7) (v := ?_) rfl (by kernel_rfl) (by kernel_rfl) (by kernel_rfl) (fun _ _ _ h => h) (Or.inl ⟨by rfl, ?_⟩) (by assumption) ?_
            rotate_left
            · intro w9 hSw; (try dsimp only at hSw); go_simp; try with_reducible rfl
            try simp only [List.getElem_toArray, List.getElem_cons_succ, List.getElem_cons_zero, Act.put, List.setIfInBounds_toArray, List.set_cons_zero, List.set_cons_succ]
            refine wpAnyH_take (i := 8) (v := ?_) rfl (by kernel_rfl) (by kernel_rfl) (by kernel_rfl) (fun _ _ _ h => h) (Or.inl ⟨by rfl, ?_⟩) (by assumption) ?_
            rotate_left
            · intro w9 hSw; (try dsimp only at hSw); go_simp; try with_reducible rfl
            try simp only [List.getElem_toArray, List.getElem_cons_succ, List.getElem_cons_zero, Act.put, List.setIfInBounds_toArray, List.set_cons_zero, List.set_cons_succ]
            refine wpAnyH_take (i := 11) (v := ?_) rfl (by kernel_rfl) (by kernel_rfl) (by kernel_rfl) (fun _ _ _ h => h) (Or.inl ⟨by rfl, ?_⟩) (by assumption) ?_
            rotate_left
            · intro w9 hSw; (try dsimp only at hSw); go_simp; try with_reducible rfl
            try simp only [List.getElem_toArray, List.getElem_cons_succ, List.getElem_cons_zero, Act.put, List.setIfInBounds_toArray, List.set_cons_zero, List.set_cons_succ]
            refine wpAnyH_take (i := 12) (v := ?_) rfl (by kernel_rfl) (by kernel_rfl) (by kernel_rfl) (fun _ _ _ h => h) (Or.inl ⟨by rfl, ?_⟩) (by assumption) ?_
            rotate_left
            · intro w9 hSw; (try dsimp only at hSw); go_simp; try with_reducible rfl
            try simp only [List.getElem_toArray, List.getElem_cons_succ, List.getElem_cons_zero, Act.put, List.setIfInBounds_toArray, List.set_cons_zero, List.set_cons_succ]
            refine wpAnyH_take (i := 13) (v := ?_) rfl (by kernel_rfl) (by kernel_rfl) (by kernel_rfl) (fun _ _ _ h => h) (Or.inl ⟨by rfl, ?_⟩) (by assumption) ?_
            rotate_left
            · intro w9 hSw; (try dsimp only at hSw); go_simp; try with_reducible rfl
            try simp only [List.getElem_toArray, List.getElem_cons_succ, List.getElem_cons_zero, Act.put, List.setIfInBounds_toArray, List.set_cons_zero, List.set_cons_succ]
            refine wpAnyH_ready (rs := [0, 9]) (by kernel_rfl) (by simp) ?_
            refine AllReadyH.cons rfl (fun K hK => ?_) ?_
            · skip
              clear hHeld
              go_simp
              have ho0 : (v32.alloc (.cells #[] 3)).ownsRow wr.heap.size 3 1 (.slice (some ⟨v32.heap.size, 0, none⟩) 0 0) 0 [] := World.ownsRow_made (base := wr.heap.size) (e := 3) (size := 1) v32 #[] 0 (by have := HBh32.out.size; omega) (by unfold maxLen; omega) rfl
              have hb := below_alloc v32 (.cells #[] 3)
              have lt_v0 := size_alloc' v32 (.cells #[] 3)
              obtain ⟨B0, hB0⟩ : ∃ B0 : Nat, B0 = v32.heap.size := ⟨_, rfl⟩
              rw [← hB0] at ho0 ⊢
              have hB0l : B0 ≤ v32.heap.size ∧ v32.heap.size ≤ B0 := by omega
              clear hB0
              generalize hwn : v32.alloc (.cells #[] 3) = v33 at *
              clear hwn
              have sz33 : v32.heap.size ≤ v33.heap.size := hb.size
              replace hit := cell_keep hb hit
              have HBh33 := Lib.hid (HBh32.out.trans (hb.mono (by have := HBh32.out.size; omega)))
              clear hb
              have HO0 := Lib.hid ho0
              clear ho0
              refine hK.out _ _ ?_ (fun hHeld => ?_)
              · exact hit
              clear hK K
              try simp only [List.getElem_toArray, List.getElem_cons_succ, List.getElem_cons_zero, Act.put, List.setIfInBounds_toArray, List.set_cons_zero, List.set_cons_succ]
              refine wpAnyH_ready (rs := [4, 9]) (by kernel_rfl) (by simp) ?_
              refine AllReadyH.cons rfl (fun K hK => ?_) ?_
              · skip
                clear hHeld
                refine step_append_any rfl _ _ 23 rfl wr.heap.size 3 i0 (.int .i64 0) 1 8 Try.underlying23 hi hz0 hz1 hz2 rfl (by decide) (Value.slice (some ⟨B0, 0, none⟩) 0 0) (0) ([]) (by rfl) HO0.out ⟨gl, 0, none⟩ kk cp (cs.take kk) (by rfl) (by rw [List.length_take]; omega) (fun j u hj => by rw [Go.WideShapes.add_plain, Nat.zero_add]; exact cell_below HBh33.out (HCL.out j u (take_some hj)) hgl) (fun u hu => HONE.out u (List.mem_of_mem_take hu)) (by unfold maxLen; omega) (by omega) (by have := HBh33.out.size; omega) ?_
                intro u1 v34 hown1 hg hat1
                have hrow : ∀ g, (Value.slice (some ⟨B0, 0, none⟩) 0 0).ownBlock = some g → wr.heap.size ≤ g := fun g e => (HO0.out.lt g e).1
                have sz34 : v33.heap.size ≤ v34.heap.size := hg.size
                replace hit := cell_grow hg hit (fun g e => by have := hrow g e; omega)
                have HBh34 := Lib.hid (HBh33.out.grown hg (by have := HBh33.out.size; omega) (fun g e => hrow g e))
                have HO1 := Lib.hid hown1
                clear hown1 hg hat1 hrow
                refine hK.out _ _ ?_ (fun hHeld => ?_)
                · exact hit
                clear hK K
                try simp only [List.getElem_toArray, List.getElem_cons_succ, List.getElem_cons_zero, Act.put, List.setIfInBounds_toArray, List.set_cons_zero, List.set_cons_succ]
                refine wpAnyH_ready (rs := [9]) (by kernel_rfl) (by simp) ?_
                refine AllReadyH.cons rfl (fun K hK => ?_) AllReadyH.nil
                clear hHeld
                go_simp
                have nx_0 : (v34.alloc (.cells #[.int .i64 (m9 : Int)] 3)).cell? ⟨v34.heap.size, 0, none⟩ = some (.int .i64 (m9 : Int)) := cell_new _ _ _ rfl rfl
                have HNE1 := Lib.hid (show ∀ g, u1.ownBlock = some g → g ≠ v34.heap.size from fun g e => by have := (HO1.out.lt g e).2; omega)
                replace HO1 := Lib.hid (HO1.out.alloc (.cells #[.int .i64 (m9 : Int)] 3))
                have hb := below_alloc v34 (.cells #[.int .i64 (m9 : Int)] 3)
                have lt_nx := size_alloc' v34 (.cells #[.int .i64 (m9 : Int)] 3)
                obtain ⟨BN, hBN⟩ : ∃ BN : Nat, BN = v34.heap.size := ⟨_, rfl⟩
                rw [← hBN] at nx_0 HNE1 ⊢
                have hBNl : BN ≤ v34.heap.size ∧ v34.heap.size ≤ BN := by omega
                clear hBN
                generalize hwn : v34.alloc (.cells #[.int .i64 (m9 : Int)] 3) = v35 at *
                clear hwn
                have sz35 : v34.heap.size ≤ v35.heap.size := hb.size
                replace hit := cell_keep hb hit
                have HBh35 := Lib.hid (HBh34.out.trans (hb.mono (by have := HBh34.out.size; omega)))
                clear hb
                refine hK.out _ _ ?_ (fun hHeld => ?_)
                · exact hit
                clear hK K
                try simp only [List.getElem_toArray, List.getElem_cons_succ, List.getElem_cons_zero, Act.put, List.setIfInBounds_toArray, List.set_cons_zero, List.set_cons_succ]
                refine wpAnyH_ready (rs := [10]) (by kernel_rfl) (by simp) ?_
                refine AllReadyH.cons rfl (fun K hK => ?_) AllReadyH.nil
                clear hHeld
                refine step_append_any rfl _ _ 23 rfl wr.heap.size 3 i0 (.int .i64 0) 1 8 Try.underlying23 hi hz0 hz1 hz2 rfl (by decide) u1 (0 + kk) ([] ++ (cs.take kk)) (by rfl) HO1.out ⟨BN, 0, none⟩ 1 1 [.int .i64 (m9 : Int)] (by rfl) (by rfl) (fun j u hj => by (have h7 : j = 0 := by (have := (List.getElem?_eq_some_iff.1 hj).1; simp at this; exact this)); subst h7; simp at hj; subst hj; simpa [Addr.add] using nx_0) (by simp [Value.oneCell']) (by unfold maxLen; omega) (by omega) (by have := HBh35.out.size; omega) ?_
                intro u2 v36 hown2 hg hat2
                have nx_00 := nx_0
                have hnb : ∀ g, u1.ownBlock = some g → BN ≠ g := fun g e => Ne.symm (HNE1.out g e)
                have hrow : ∀ g, u1.ownBlock = some g → wr.heap.size ≤ g := fun g e => (HO1.out.lt g e).1
                have sz36 : v35.heap.size ≤ v36.heap.size := hg.size
                replace hit := cell_grow hg hit (fun g e => by have := hrow g e; omega)
                replace nx_0 := cell_grow hg nx_0 (fun g e => hnb g e)
                have HBh36 := Lib.hid (HBh35.out.grown hg (by have := HBh35.out.size; omega) (fun g e => hrow g e))
                have HO2 := Lib.hid hown2
                have HNE2 := Lib.hid (show ∀ g, u2.ownBlock = some g → g ≠ BN from fun g e => by (rcases hat2 with e2 | e2); (rw [e2] at e; exact HNE1.out g e); (have h7 : v35.heap.size = g := by (rw [e2] at e; simpa using e)); (have h8 := block_lt_of_cell (a := ⟨BN, 0, none⟩) nx_00); omega)
                clear hown2 hg hat2 hrow hnb
                clear nx_00
                refine hK.out _ _ ?_ (fun hHeld => ?_)
                · exact hit
                clear hK K
                try simp only [List.getElem_toArray, List.getElem_cons_succ, List.getElem_cons_zero, Act.put, List.setIfInBounds_toArray, List.set_cons_zero, List.set_cons_succ]
                refine wpAnyH_ready (rs := [14]) (by kernel_rfl) (by simp) ?_
                refine AllReadyH.cons rfl (fun K hK => ?_) AllReadyH.nil
                clear hHeld
                refine step_append_any rfl _ _ 23 rfl wr.heap.size 3 i0 (.int .i64 0) 1 8 Try.underlying23 hi hz0 hz1 hz2 rfl (by decide) u2 (0 + kk + 1) ([] ++ (cs.take kk) ++ [.int .i64 (m9 : Int)]) (by rfl) HO2.out ⟨gl, kk, none⟩ (k1 - kk) (cp - kk) (cs.drop kk) (by rfl) (by rw [List.length_drop]; omega) (fun j u hj => by rw [Go.WideShapes.add_plain]; exact cell_below HBh36.out (HCL.out (kk + j) u (by rw [List.getElem?_drop] at hj; exact hj)) hgl) (fun u hu => HONE.out u (List.mem_of_mem_drop hu)) (by unfold maxLen; omega) (by omega) (by have := HBh36.out.size; omega) ?_
                intro u3 v37 hown3 hg hat3
                have nx_00 := nx_0
                have hnb : ∀ g, u2.ownBlock = some g → BN ≠ g := fun g e => Ne.symm (HNE2.out g e)
                have hrow : ∀ g, u2.ownBlock = some g → wr.heap.size ≤ g := fun g e => (HO2.out.lt g e).1
                have sz37 : v36.heap.size ≤ v37.heap.size := hg.size
                replace hit := cell_grow hg hit (fun g e => by have := hrow g e; omega)
                replace nx_0 := cell_grow hg nx_0 (fun g e => hnb g e)
                have HBh37 := Lib.hid (HBh36.out.grown hg (by have := HBh36.out.size; omega) (fun g e => hrow g e))
                have HO3 := Lib.hid hown3
                have HNE3 := Lib.hid (show ∀ g, u3.ownBlock = some g → g ≠ BN from fun g e => by (rcases hat3 with e2 | e2); (rw [e2] at e; exact HNE2.out g e); (have h7 : v36.heap.size = g := by (rw [e2] at e; simpa using e)); (have h8 := block_lt_of_cell (a := ⟨BN, 0, none⟩) nx_00); omega)
                clear hown3 hg hat3 hrow hnb
                clear nx_00
                refine hK.out _ _ ?_ (fun hHeld => ?_)
                · exact hit
                clear hK K
                try simp only [List.getElem_toArray, List.getElem_cons_succ, List.getElem_cons_zero, Act.put, List.setIfInBounds_toArray, List.set_cons_zero, List.set_cons_succ]
                refine wpAnyH_take (i := 15) (v := ?_) rfl (by kernel_rfl) (by kernel_rfl) (by kernel_rfl) (fun _ _ _ h => h) (Or.inl ⟨by rfl, ?_⟩) (by assumption) ?_
                rotate_left
                · intro w9 hSw; (try dsimp only at hSw); go_simp; try with_reducible rfl
                try simp only [List.getElem_toArray, List.getElem_cons_succ, List.getElem_cons_zero, Act.put, List.setIfInBounds_toArray, List.set_cons_zero, List.set_cons_succ]
                refine wpAnyH_done (by kernel_rfl) ?_ _
                refine NoPanic.normal ?_
                clear hHeld
                have hfin : v37.ownsRow wr.heap.size 3 1 u3 (k1 + 1) (cs.take kk ++ .int .i64 (m9 : Int) :: cs.drop kk) := by
                  have h7 := HO3.out
                  rw [show 0 + kk + 1 + (k1 - kk) = k1 + 1 by omega] at h7
                  simpa [List.append_assoc] using h7
                obtain ⟨g', cap', hv'⟩ := ownsRow_succ hfin
                subst hv'
                have HFN := Lib.hid (HFIN.out _ v37 hfin)
                have HBN := Lib.hid (HBO.out.trans (HBh37.out.mono hszo))
                clear hfin
                go_wp2_with fail
                go_roundw
                case rel => exact ⟨k1 + 1, g', cap', by omega, by go_num, rfl, HFN.out, HBN.out⟩
                case measure => simp [intOf]; omega
              refine AllReadyH.cons rfl (fun K hK => ?_) AllReadyH.nil
              clear hHeld
              go_simp
              have nx_0 : (v33.alloc (.cells #[.int .i64 (m9 : Int)] 3)).cell? ⟨v33.heap.size, 0, none⟩ = some (.int .i64 (m9 : Int)) := cell_new _ _ _ rfl rfl
              have HNE0 := Lib.hid (show ∀ g, (Value.slice (some ⟨B0, 0, none⟩) 0 0).ownBlock = some g → g ≠ v33.heap.size from fun g e => by have := (HO0.out.lt g e).2; omega)
              replace HO0 := Lib.hid (HO0.out.alloc (.cells #[.int .i64 (m9 : Int)] 3))
              have hb := below_alloc v33 (.cells #[.int .i64 (m9 : Int)] 3)
              have lt_nx := size_alloc' v33 (.cells #[.int .i64 (m9 : Int)] 3)
              obtain ⟨BN, hBN⟩ : ∃ BN : Nat, BN = v33.heap.size := ⟨_, rfl⟩
              rw [← hBN] at nx_0 HNE0 ⊢
              have hBNl : BN ≤ v33.heap.size ∧ v33.heap.size ≤ BN := by omega
              clear hBN
              generalize hwn : v33.alloc (.cells #[.int .i64 (m9 : Int)] 3) = v34 at *
              clear hwn
              have sz34 : v33.heap.size ≤ v34.heap.size := hb.size
              replace hit := cell_keep hb hit
              have HBh34 := Lib.hid (HBh33.out.trans (hb.mono (by have := HBh33.out.size; omega)))
              clear hb
              refine hK.out _ _ ?_ (fun hHeld => ?_)
              · exact hit
              clear hK K
              try simp only [List.getElem_toArray, List.getElem_cons_succ, List.getElem_cons_zero, Act.put, List.setIfInBounds_toArray, List.set_cons_zero, List.set_cons_succ]
              refine wpAnyH_ready (rs := [4]) (by kernel_rfl) (by simp) ?_
              refine AllReadyH.cons rfl (fun K hK => ?_) AllReadyH.nil
              clear hHeld
              refine step_append_any rfl _ _ 23 rfl wr.heap.size 3 i0 (.int .i64 0) 1 8 Try.underlying23 hi hz0 hz1 hz2 rfl (by decide) (Value.slice (some ⟨B0, 0, none⟩) 0 0) (0) ([]) (by rfl) HO0.out ⟨gl, 0, none⟩ kk cp (cs.take kk) (by rfl) (by rw [List.length_take]; omega) (fun j u hj => by rw [Go.WideShapes.add_plain, Nat.zero_add]; exact cell_below HBh34.out (HCL.out j u (take_some hj)) hgl) (fun u hu => HONE.out u (List.mem_of_mem_take hu)) (by unfold maxLen; omega) (by omega) (by have := HBh34.out.size; omega) ?_
              intro u1 v35 hown1 hg hat1
              have nx_00 := nx_0
              have hnb : ∀ g, (Value.slice (some ⟨B0, 0, none⟩) 0 0).ownBlock = some g → BN ≠ g := fun g e => Ne.symm (HNE0.out g e)
              have hrow : ∀ g, (Value.slice (some ⟨B0, 0, none⟩) 0 0).ownBlock = some g → wr.heap.size ≤ g := fun g e => (HO0.out.lt g e).1
              have sz35 : v34.heap.size ≤ v35.heap.size := hg.size
              replace hit := cell_grow hg hit (fun g e => by have := hrow g e; omega)
              replace nx_0 := cell_grow hg nx_0 (fun g e => hnb g e)
              have HBh35 := Lib.hid (HBh34.out.grown hg (by have := HBh34.out.size; omega) (fun g e => hrow g e))
              have HO1 := Lib.hid hown1
              have HNE1 := Lib.hid (show ∀ g, u1.ownBlock = some g → g ≠ BN from fun g e => by (rcases hat1 with e2 | e2); (rw [e2] at e; exact HNE0.out g e); (have h7 : v34.heap.size = g := by (rw [e2] at e; simpa using e)); (have h8 := block_lt_of_cell (a := ⟨BN, 0, none⟩) nx_00); omega)
              clear hown1 hg hat1 hrow hnb
              clear nx_00
              refine hK.out _ _ ?_ (fun hHeld => ?_)
              · exact hit
              clear hK K
              try simp only [List.getElem_toArray, List.getElem_cons_succ, List.getElem_cons_zero, Act.put, List.setIfInBounds_toArray, List.set_cons_zero, List.set_cons_succ]
              refine wpAnyH_ready (rs := [10]) (by kernel_rfl) (by simp) ?_
              refine AllReadyH.cons rfl (fun K hK => ?_) AllReadyH.nil
              clear hHeld
              refine step_append_any rfl _ _ 23 rfl wr.heap.size 3 i0 (.int .i64 0) 1 8 Try.underlying23 hi hz0 hz1 hz2 rfl (by decide) u1 (0 + kk) ([] ++ (cs.take kk)) (by rfl) HO1.out ⟨BN, 0, none⟩ 1 1 [.int .i64 (m9 : Int)] (by rfl) (by rfl) (fun j u hj => by (have h7 : j = 0 := by (have := (List.getElem?_eq_some_iff.1 hj).1; simp at this; exact this)); subst h7; simp at hj; subst hj; simpa [Addr.add] using nx_0) (by simp [Value.oneCell']) (by unfold maxLen; omega) (by omega) (by have := HBh35.out.size; omega) ?_
              intro u2 v36 hown2 hg hat2
              have nx_00 := nx_0
              have hnb : ∀ g, u1.ownBlock = some g → BN ≠ g := fun g e => Ne.symm (HNE1.out g e)
              have hrow : ∀ g, u1.ownBlock = some g → wr.heap.size ≤ g := fun g e => (HO1.out.lt g e).1
              have sz36 : v35.heap.size ≤ v36.heap.size := hg.size
              replace hit := cell_grow hg hit (fun g e => by have := hrow g e; omega)
              replace nx_0 := cell_grow hg nx_0 (fun g e => hnb g e)
              have HBh36 := Lib.hid (HBh35.out.grown hg (by have := HBh35.out.size; omega) (fun g e => hrow g e))
              have HO2 := Lib.hid hown2
              have HNE2 := Lib.hid (show ∀ g, u2.ownBlock = some g → g ≠ BN from fun g e => by (rcases hat2 with e2 | e2); (rw [e2] at e; exact HNE1.out g e); (have h7 : v35.heap.size = g := by (rw [e2] at e; simpa using e)); (have h8 := block_lt_of_cell (a := ⟨BN, 0, none⟩) nx_00); omega)
              clear hown2 hg hat2 hrow hnb
              clear nx_00
              refine hK.out _ _ ?_ (fun hHeld => ?_)
              · exact hit
              clear hK K
              try simp only [List.getElem_toArray, List.getElem_cons_succ, List.getElem_cons_zero, Act.put, List.setIfInBounds_toArray, List.set_cons_zero, List.set_cons_succ]
              refine wpAnyH_ready (rs := [14]) (by kernel_rfl) (by simp) ?_
              refine AllReadyH.cons rfl (fun K hK => ?_) AllReadyH.nil
              clear hHeld
              refine step_append_any rfl _ _ 23 rfl wr.heap.size 3 i0 (.int .i64 0) 1 8 Try.underlying23 hi hz0 hz1 hz2 rfl (by decide) u2 (0 + kk + 1) ([] ++ (cs.take kk) ++ [.int .i64 (m9 : Int)]) (by rfl) HO2.out ⟨gl, kk, none⟩ (k1 - kk) (cp - kk) (cs.drop kk) (by rfl) (by rw [List.length_drop]; omega) (fun j u hj => by rw [Go.WideShapes.add_plain]; exact cell_below HBh36.out (HCL.out (kk + j) u (by rw [List.getElem?_drop] at hj; exact hj)) hgl) (fun u hu => HONE.out u (List.mem_of_mem_drop hu)) (by unfold maxLen; omega) (by omega) (by have := HBh36.out.size; omega) ?_
              intro u3 v37 hown3 hg hat3
              have nx_00 := nx_0
              have hnb : ∀ g, u2.ownBlock = some g → BN ≠ g := fun g e => Ne.symm (HNE2.out g e)
              have hrow : ∀ g, u2.ownBlock = some g → wr.heap.size ≤ g := fun g e => (HO2.out.lt g e).1
              have sz37 : v36.heap.size ≤ v37.heap.size := hg.size
              replace hit := cell_grow hg hit (fun g e => by have := hrow g e; omega)
              replace nx_0 := cell_grow hg nx_0 (fun g e => hnb g e)
              have HBh37 := Lib.hid (HBh36.out.grown hg (by have := HBh36.out.size; omega) (fun g e => hrow g e))
              have HO3 := Lib.hid hown3
              have HNE3 := Lib.hid (show ∀ g, u3.ownBlock = some g → g ≠ BN from fun g e => by (rcases hat3 with e2 | e2); (rw [e2] at e; exact HNE2.out g e); (have h7 : v36.heap.size = g := by (rw [e2] at e; simpa using e)); (have h8 := block_lt_of_cell (a := ⟨BN, 0, none⟩) nx_00); omega)
              clear hown3 hg hat3 hrow hnb
              clear nx_00
              refine hK.out _ _ ?_ (fun hHeld => ?_)
              · exact hit
              clear hK K
              try simp only [List.getElem_toArray, List.getElem_cons_succ, List.getElem_cons_zero, Act.put, List.setIfInBounds_toArray, List.set_cons_zero, List.set_cons_succ]
              refine wpAnyH_take (i := 15) (v := ?_) rfl (by kernel_rfl) (by kernel_rfl) (by kernel_rfl) (fun _ _ _ h => h) (Or.inl ⟨by rfl, ?_⟩) (by assumption) ?_
              rotate_left
              · intro w9 hSw; (try dsimp only at hSw); go_simp; try with_reducible rfl
              try simp only [List.getElem_toArray, List.getElem_cons_succ, List.getElem_cons_zero, Act.put, List.setIfInBounds_toArray, List.set_cons_zero, List.set_cons_succ]
              refine wpAnyH_done (by kernel_rfl) ?_ _
              refine NoPanic.normal ?_
              clear hHeld
              have hfin : v37.ownsRow wr.heap.size 3 1 u3 (k1 + 1) (cs.take kk ++ .int .i64 (m9 : Int) :: cs.drop kk) := by
                have h7 := HO3.out
                rw [show 0 + kk + 1 + (k1 - kk) = k1 + 1 by omega] at h7
                simpa [List.append_assoc] using h7
              obtain ⟨g', cap', hv'⟩ := ownsRow_succ hfin
              subst hv'
              have HFN := Lib.hid (HFIN.out _ v37 hfin)
              have HBN := Lib.hid (HBO.out.trans (HBh37.out.mono hszo))
              clear hfin
              go_wp2_with fail
              go_roundw
              case rel => exact ⟨k1 + 1, g', cap', by omega, by go_num, rfl, HFN.out, HBN.out⟩
              case measure => simp [intOf]; omega
            refine AllReadyH.cons rfl (fun K hK => ?_) AllReadyH.nil
            clear hHeld
            go_simp
            have nx_0 : (v32.alloc (.cells #[.int .i64 (m9 : Int)] 3)).cell? ⟨v32.heap.size, 0, none⟩ = some (.int .i64 (m9 : Int)) := cell_new _ _ _ rfl rfl
            have hb := below_alloc v32 (.cells #[.int .i64 (m9 : Int)] 3)
            have lt_nx := size_alloc' v32 (.cells #[.int .i64 (m9 : Int)] 3)
            obtain ⟨BN, hBN⟩ : ∃ BN : Nat, BN = v32.heap.size := ⟨_, rfl⟩
            rw [← hBN] at nx_0  ⊢
            have hBNl : BN ≤ v32.heap.size ∧ v32.heap.size ≤ BN := by omega
            clear hBN
            generalize hwn : v32.alloc (.cells #[.int .i64 (m9 : Int)] 3) = v33 at *
            clear hwn
            have sz33 : v32.heap.size ≤ v33.heap.size := hb.size
            replace hit := cell_keep hb hit
            have HBh33 := Lib.hid (HBh32.out.trans (hb.mono (by have := HBh32.out.size; omega)))
            clear hb
            refine hK.out _ _ ?_ (fun hHeld => ?_)
            · exact hit
            clear hK K
            try simp only [List.getElem_toArray, List.getElem_cons_succ, List.getElem_cons_zero, Act.put, List.setIfInBounds_toArray, List.set_cons_zero, List.set_cons_succ]
            refine wpAnyH_ready (rs := [0]) (by kernel_rfl) (by simp) ?_
            refine AllReadyH.cons rfl (fun K hK => ?_) AllReadyH.nil
            clear hHeld
            go_simp
            have ho0 : (v33.alloc (.cells #[] 3)).ownsRow wr.heap.size 3 1 (.slice (some ⟨v33.heap.size, 0, none⟩) 0 0) 0 [] := World.ownsRow_made (base := wr.heap.size) (e := 3) (size := 1) v33 #[] 0 (by have := HBh33.out.size; omega) (by unfold maxLen; omega) rfl
            have hb := below_alloc v33 (.cells #[] 3)
            have lt_v0 := size_alloc' v33 (.cells #[] 3)
            have hne0 : BN ≠ v33.heap.size := by omega
            obtain ⟨B0, hB0⟩ : ∃ B0 : Nat, B0 = v33.heap.size := ⟨_, rfl⟩
            rw [← hB0] at ho0 ⊢
            have hB0l : B0 ≤ v33.heap.size ∧ v33.heap.size ≤ B0 := by omega
            clear hB0
            generalize hwn : v33.alloc (.cells #[] 3) = v34 at *
            clear hwn
            have sz34 : v33.heap.size ≤ v34.heap.size := hb.size
            replace hit := cell_keep hb hit
            replace nx_0 := cell_keep hb nx_0
            have HBh34 := Lib.hid (HBh33.out.trans (hb.mono (by have := HBh33.out.size; omega)))
            clear hb
            have HO0 := Lib.hid ho0
            clear ho0
            have HNE0 := Lib.hid (show ∀ g, (Value.slice (some ⟨B0, 0, none⟩) 0 0).ownBlock = some g → g ≠ BN from fun g e => by (have e2 : B0 = g := by simpa [Value.ownBlock] using e); omega)
            refine hK.out _ _ ?_ (fun hHeld => ?_)
            · exact hit
            clear hK K
            try simp only [List.getElem_toArray, List.getElem_cons_succ, List.getElem_cons_zero, Act.put, List.setIfInBounds_toArray, List.set_cons_zero, List.set_cons_succ]
            refine wpAnyH_ready (rs := [4]) (by kernel_rfl) (by simp) ?_
            refine AllReadyH.cons rfl (fun K hK => ?_) AllReadyH.nil
            clear hHeld
            refine step_append_any rfl _ _ 23 rfl wr.heap.size 3 i0 (.int .i64 0) 1 8 Try.underlying23 hi hz0 hz1 hz2 rfl (by decide) (Value.slice (some ⟨B0, 0, none⟩) 0 0) (0) ([]) (by rfl) HO0.out ⟨gl, 0, none⟩ kk cp (cs.take kk) (by rfl) (by rw [List.length_take]; omega) (fun j u hj => by rw [Go.WideShapes.add_plain, Nat.zero_add]; exact cell_below HBh34.out (HCL.out j u (take_some hj)) hgl) (fun u hu => HONE.out u (List.mem_of_mem_take hu)) (by unfold maxLen; omega) (by omega) (by have := HBh34.out.size; omega) ?_
            intro u1 v35 hown1 hg hat1
            have nx_00 := nx_0
            have hnb : ∀ g, (Value.slice (some ⟨B0, 0, none⟩) 0 0).ownBlock = some g → BN ≠ g := fun g e => Ne.symm (HNE0.out g e)
            have hrow : ∀ g, (Value.slice (some ⟨B0, 0, none⟩) 0 0).ownBlock = some g → wr.heap.size ≤ g := fun g e => (HO0.out.lt g e).1
            have sz35 : v34.heap.size ≤ v35.heap.size := hg.size
            replace hit := cell_grow hg hit (fun g e => by have := hrow g e; omega)
            replace nx_0 := cell_grow hg nx_0 (fun g e => hnb g e)
            have HBh35 := Lib.hid (HBh34.out.grown hg (by have := HBh34.out.size; omega) (fun g e => hrow g e))
            have HO1 := Lib.hid hown1
            have HNE1 := Lib.hid (show ∀ g, u1.ownBlock = some g → g ≠ BN from fun g e => by (rcases hat1 with e2 | e2); (rw [e2] at e; exact HNE0.out g e); (have h7 : v34.heap.size = g := by (rw [e2] at e; simpa using e)); (have h8 := block_lt_of_cell (a := ⟨BN, 0, none⟩) nx_00); omega)
            clear hown1 hg hat1 hrow hnb
            clear nx_00
            refine hK.out _ _ ?_ (fun hHeld => ?_)
            · exact hit
            clear hK K
            try simp only [List.getElem_toArray, List.getElem_cons_succ, List.getElem_cons_zero, Act.put, List.setIfInBounds_toArray, List.set_cons_zero, List.set_cons_succ]
            refine wpAnyH_ready (rs := [10]) (by kernel_rfl) (by simp) ?_
            refine AllReadyH.cons rfl (fun K hK => ?_) AllReadyH.nil
            clear hHeld
            refine step_append_any rfl _ _ 23 rfl wr.heap.size 3 i0 (.int .i64 0) 1 8 Try.underlying23 hi hz0 hz1 hz2 rfl (by decide) u1 (0 + kk) ([] ++ (cs.take kk)) (by rfl) HO1.out ⟨BN, 0, none⟩ 1 1 [.int .i64 (m9 : Int)] (by rfl) (by rfl) (fun j u hj => by (have h7 : j = 0 := by (have := (List.getElem?_eq_some_iff.1 hj).1; simp at this; exact this)); subst h7; simp at hj; subst hj; simpa [Addr.add] using nx_0) (by simp [Value.oneCell']) (by unfold maxLen; omega) (by omega) (by have := HBh35.out.size; omega) ?_
            intro u2 v36 hown2 hg hat2
            have nx_00 := nx_0
            have hnb : ∀ g, u1.ownBlock = some g → BN ≠ g := fun g e => Ne.symm (HNE1.out g e)
            have hrow : ∀ g, u1.ownBlock = some g → wr.heap.size ≤ g := fun g e => (HO1.out.lt g e).1
            have sz36 : v35.heap.size ≤ v36.heap.size := hg.size
            replace hit := cell_grow hg hit (fun g e => by have := hrow g e; omega)
            replace nx_0 := cell_grow hg nx_0 (fun g e => hnb g e)
            have HBh36 := Lib.hid (HBh35.out.grown hg (by have := HBh35.out.size; omega) (fun g e => hrow g e))
            have HO2 := Lib.hid hown2
            have HNE2 := Lib.hid (show ∀ g, u2.ownBlock = some g → g ≠ BN from fun g e => by (rcases hat2 with e2 | e2); (rw [e2] at e; exact HNE1.out g e); (have h7 : v35.heap.size = g := by (rw [e2] at e; simpa using e)); (have h8 := block_lt_of_cell (a := ⟨BN, 0, none⟩) nx_00); omega)
            clear hown2 hg hat2 hrow hnb
            clear nx_00
            refine hK.out _ _ ?_ (fun hHeld => ?_)
            · exact hit
            clear hK K
            try simp only [List.getElem_toArray, List.getElem_cons_succ, List.getElem_cons_zero, Act.put, List.setIfInBounds_toArray, List.set_cons_zero, List.set_cons_succ]
            refine wpAnyH_ready (rs := [14]) (by kernel_rfl) (by simp) ?_
            refine AllReadyH.cons rfl (fun K hK => ?_) AllReadyH.nil
            clear hHeld
            refine step_append_any rfl _ _ 23 rfl wr.heap.size 3 i0 (.int .i64 0) 1 8 Try.underlying23 hi hz0 hz1 hz2 rfl (by decide) u2 (0 + kk + 1) ([] ++ (cs.take kk) ++ [.int .i64 (m9 : Int)]) (by rfl) HO2.out ⟨gl, kk, none⟩ (k1 - kk) (cp - kk) (cs.drop kk) (by rfl) (by rw [List.length_drop]; omega) (fun j u hj => by rw [Go.WideShapes.add_plain]; exact cell_below HBh36.out (HCL.out (kk + j) u (by rw [List.getElem?_drop] at hj; exact hj)) hgl) (fun u hu => HONE.out u (List.mem_of_mem_drop hu)) (by unfold maxLen; omega) (by omega) (by have := HBh36.out.size; omega) ?_
            intro u3 v37 hown3 hg hat3
            have nx_00 := nx_0
            have hnb : ∀ g, u2.ownBlock = some g → BN ≠ g := fun g e => Ne.symm (HNE2.out g e)
            have hrow : ∀ g, u2.ownBlock = some g → wr.heap.size ≤ g := fun g e => (HO2.out.lt g e).1
            have sz37 : v36.heap.size ≤ v37.heap.size := hg.size
            replace hit := cell_grow hg hit (fun g e => by have := hrow g e; omega)
            replace nx_0 := cell_grow hg nx_0 (fun g e => hnb g e)
            have HBh37 := Lib.hid (HBh36.out.grown hg (by have := HBh36.out.size; omega) (fun g e => hrow g e))
            have HO3 := Lib.hid hown3
            have HNE3 := Lib.hid (show ∀ g, u3.ownBlock = some g → g ≠ BN from fun g e => by (rcases hat3 with e2 | e2); (rw [e2] at e; exact HNE2.out g e); (have h7 : v36.heap.size = g := by (rw [e2] at e; simpa using e)); (have h8 := block_lt_of_cell (a := ⟨BN, 0, none⟩) nx_00); omega)
            clear hown3 hg hat3 hrow hnb
            clear nx_00
            refine hK.out _ _ ?_ (fun hHeld => ?_)
            · exact hit
            clear hK K
            try simp only [List.getElem_toArray, List.getElem_cons_succ, List.getElem_cons_zero, Act.put, List.setIfInBounds_toArray, List.set_cons_zero, List.set_cons_succ]
            refine wpAnyH_take (i := 15) (v := ?_) rfl (by kernel_rfl) (by kernel_rfl) (by kernel_rfl) (fun _ _ _ h => h) (Or.inl ⟨by rfl, ?_⟩) (by assumption) ?_
            rotate_left
            · intro w9 hSw; (try dsimp only at hSw); go_simp; try with_reducible rfl
            try simp only [List.getElem_toArray, List.getElem_cons_succ, List.getElem_cons_zero, Act.put, List.setIfInBounds_toArray, List.set_cons_zero, List.set_cons_succ]
            refine wpAnyH_done (by kernel_rfl) ?_ _
            refine NoPanic.normal ?_
            clear hHeld
            have hfin : v37.ownsRow wr.heap.size 3 1 u3 (k1 + 1) (cs.take kk ++ .int .i64 (m9 : Int) :: cs.drop kk) := by
              have h7 := HO3.out
              rw [show 0 + kk + 1 + (k1 - kk) = k1 + 1 by omega] at h7
              simpa [List.append_assoc] using h7
            obtain ⟨g', cap', hv'⟩ := ownsRow_succ hfin
            subst hv'
            have HFN := Lib.hid (HFIN.out _ v37 hfin)
            have HBN := Lib.hid (HBO.out.trans (HBh37.out.mono hszo))
            clear hfin
            go_wp2_with fail
            go_roundw
            case rel => exact ⟨k1 + 1, g', cap', by omega, by go_num, rfl, HFN.out, HBN.out⟩
            case measure => simp [intOf]; omega
    · obtain rfl : k1 = ps.length := by omega
      have HF := Lib.hid (show intfns.Made (near (dist rows xs) ps) w (.returned (.slice (some ⟨gl, 0, none⟩) ps.length cp)) wo from by
        rw [← HDD.out]
        refine ⟨_, rfl, ?_, HB0.out.trans (HBO0.out.mono (by omega))⟩
        have h9 : OwnI wb1.heap.size wo.heap.size wo (.slice (some ⟨gl, 0, none⟩) ps.length cp) (near D ps) := OwnI.of (by rw [show (near D ps).length = ps.length from nearTo_length _ _ _]; exact HO.out)
        exact h9.mono (by omega) (Nat.le_refl _))
      clear HO
      go_wp2_with fail
      go_ret
      exact HF.out
end Go.Proofs.Ytkbcofgigfnfaaa.nears
