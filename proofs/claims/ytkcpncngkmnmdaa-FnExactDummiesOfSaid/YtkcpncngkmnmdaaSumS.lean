/- The walks of the program's sums over swings, and of its two worths. -/
import Derived.Test.YtkcpncngkmnmdaaPSw
import Derived.Test.YtkcpncngkmnmdaaOutLaws
import Derived.StillTailTactics
import Derived.Deep.RegionHeld3
namespace Go.Proofs.Ytkcpncngkmnmdaa.sums6
open Go.RowKit own pp nums mk bitn pop psw outc
set_option linter.unusedVariables false
set_option linter.unusedSimpArgs false

theorem one_closure (s : Int) (w : World) : Calls Try.prog 62 #[.int .i64 s] w (fun e w' => e = .returned (.int .i64 1) ∧ ∃ m, w' = w.drewN m) := by
  go_enter Try.func62, Try.ntmps62
  go_wp2_with fail
  go_ret
  exact ⟨rfl, 0, rfl⟩
set_option maxRecDepth 100000 in
set_option maxHeartbeats 1000000 in
theorem ord_closure (s n g : Nat) (p : Nat → Bool) (w : World) (h8 : n ≤ 8) (hs : 1 ≤ s) (hsn : s ≤ n) (hb : Box w g n p) : Calls Try.prog 63 #[.int .i64 s, .pointer (some ⟨g, 0, none⟩)] w (fun e w' => e = .returned (.int .i64 (ord n s)) ∧ ∃ m, w' = w.drewN m) := by
  have c0 := hb.cell0
  have HF := Lib.hid (fun (z : Int) W (h0 : 0 ≤ z) (h8 : z ≤ 8) => show Calls Try.prog 64 #[.int .i64 z] W (fun e w' => e = .returned (.int .i64 (facI z)) ∧ w' = W) from by
    obtain ⟨k, rfl⟩ : ∃ k : Nat, z = k := ⟨z.toNat, by omega⟩
    exact (impl_fac k W (by omega)).mono (fun e w' h => ⟨h.1, h.2.symm⟩))
  have HE := Lib.hid (ord_eqI (s := s) (n := n) (by omega) h8 hs hsn)
  have hbd := ord_bd n s
  rw [HE.out] at hbd ⊢
  have b1 := facI_bd (z := (s : Int) - 1) (by omega)
  have b2 := facI_bd (z := (n : Int) - (s : Int)) (by omega)
  clear hb HE
  have e1 : IntKind.i64.wrap (facI ((s : Int) - 1) * facI ((n : Int) - (s : Int))) = facI ((s : Int) - 1) * facI ((n : Int) - (s : Int)) := IntWalk.i64_in _ (by omega)
  have e3 : IntKind.i64.wrap ((s : Int) - 1) = (s : Int) - 1 := IntWalk.i64_in _ (by omega)
  have e4 : IntKind.i64.wrap ((n : Int) - (s : Int)) = (n : Int) - (s : Int) := IntWalk.i64_in _ (by omega)
  go_enter Try.func63, Try.ntmps63
  go_wp2_with fail
  go_quiet ((go_at_call 64; exact Calls.quiet_of_same (HF.out _ _ (by omega) (by omega))))
  go_wp2_with fail
  go_ret
  exact ⟨rfl, _, rfl⟩
set_option maxRecDepth 100000 in
set_option maxHeartbeats 4000000 in
theorem sumsF (fn : Nat) (he : Enters Try.prog fn)  (wf : Nat → Int) (n : Nat) (win : Nat → Bool) (w : World) (h8 : n ≤ 8) (hwb : ∀ s, 0 ≤ wf s ∧ wf s ≤ 1625702400)
    (HC : Hid (∀ (s : Nat) (wr : World), 1 ≤ s → s ≤ n → Below w.heap.size w wr → Calls Try.prog fn #[.int .i64 s] wr fun e w' => e = .returned (.int .i64 (wf s)) ∧ ∃ m, w' = wr.drewN m)) :
    Calls Try.prog 61 #[.agg (oc n (upto win (2 ^ n))), .func (.func fn) #[] #[]] w (intfns.Made (row win wf n (2 ^ n) 0) w) := by
  obtain ⟨i0, hi, hz0, hz1, hz2⟩ := info_parts mk.infoInt
  obtain ⟨hp1, hp2⟩ := pow8 h8
  have HWB := Lib.hid hwb
  have HAll := Lib.hid (fun W => all_any n (upto win (2 ^ n)) W h8)
  have HPB := Lib.hid (fun k (h : k < 2 ^ n) => show pc k ≤ n from pc_bd ⟨n, by omega⟩ ⟨k, by omega⟩ h)
  have HSwg := Lib.hid (fun k i W (hk : k < 2 ^ n) (hi : i < n) => swing_any n (upto win (2 ^ n)) k i W (by omega) (by omega) (sw win k i) (Lib.hid (by
    have := off_le k i
    rw [upto_at _ _ _ hk, upto_at _ _ _ (by omega)]
    rfl)))
  obtain ⟨N, hN⟩ : ∃ N : Nat, 2 ^ n = N := ⟨_, rfl⟩
  have HN := Lib.hid hN
  have HE := Lib.hid he
  rw [hN] at hp1 hp2 HAll HPB HSwg ⊢
  have c0 := oc_zero n (upto win N)
  clear hN hwb he
  go_enter Try.func61, Try.ntmps61
  obtain ⟨w0, hw0⟩ : ∃ w0 : World, w0 = w.alloc (.cells (oc n (upto win N)) 53) := ⟨_, rfl⟩
  have hbx : Box w0 w.heap.size n (upto win N) := by rw [hw0]; exact Box.new w n _
  have HB0 := Lib.hid (show Below w.heap.size w w0 by rw [hw0]; exact below_alloc w _)
  have s0 : w.heap.size + 1 ≤ w0.heap.size ∧ w0.heap.size ≤ w.heap.size + 1 := by rw [hw0]; simp
  have hzz : (w.alloc (.cells (oc n (upto win N)) 53)).heap.size = w.heap.size + 1 := by simp
  go_wp2_with (refine wpList_make_full _ rfl _ _ 22 rfl (w.heap.size + 1) 3 i0 (.int .i64 0) 1 Try.underlying22 hi hz0 hz1 .i64 .i64 _ _ n rfl rfl rfl rfl (by rw [hz2]; omega) (by unfold maxLen; omega) (by simp) ?_; intro w2 hown2 hgrow2; refine Hid.out ?_)
  refine Lib.hid ?_
  simp only [hzz] at hown2 ⊢
  rw [← hw0] at hgrow2
  clear hw0 c0 hzz
  have s0' := s0.2
  have hb2 : Below (w.heap.size + 1) w0 w2 := (Below.refl _ _).grown hgrow2 s0.1 (by simp)
  have e0 : List.replicate n (Value.int .i64 0) = (row win wf n 0 0).map (Value.int .i64) := by rw [row_zero, List.map_replicate]
  rw [show (Value.int .i64 0).cells = #[Value.int .i64 0] from rfl, Nat.mul_one, toList_madeCells_one, e0] at hown2
  have HB2 := Lib.hid (HB0.out.trans (hb2.mono (by omega)))
  have s2 : (w.heap.size + 1) < w2.heap.size := (hown2.lt _ rfl).2
  have hbx2 := hbx.below hb2 (by omega)
  clear e0 hgrow2 hb2 hbx
  go_wp2_with (refine wp_load rfl _ rfl _ n (upto win N) rfl hbx2 ?_)
  refine (HAll.out _).mono ?_
  rintro e w3 ⟨rfl, hb3⟩
  have hbx3 := hbx2.below hb3 (by omega)
  have HO3 := Lib.hid (ownsRow_block hown2 (fun g hg => hb3.block g (hown2.lt g hg).2))
  have HB3 := Lib.hid (HB2.out.trans (hb3.mono (by omega)))
  have s3 := hb3.size
  clear hb3 hown2 hbx2
  go_wp2_with fail
  go_loopw [14] (fun i wr => ∃ k : Nat, k ≤ N ∧ i = .int .i64 k ∧ wr.ownsRow (w.heap.size + 1) 3 1 (.slice (some ⟨(w.heap.size + 1), 0, none⟩) n n) n ((row win wf n k 0).map (Value.int .i64)) ∧ Only (w.heap.size + 1) ((w.heap.size + 1) + 1) w3 wr) (fun i _ => N - (intOf i).toNat)
  case atStart => exact ⟨0, Nat.zero_le _, rfl, HO3.out, Only.refl _ _ _⟩
  case round =>
    obtain ⟨k, hk, rfl, hown, hon⟩ := hrel
    clear HO3
    obtain ⟨wo, hwo⟩ : ∃ wo : World, wo = wr := ⟨_, rfl⟩
    by_cases hlt : k < N
    · have HO := Lib.hid hown
      have HON := Lib.hid hon
      clear hown hon
      go_wp2_with fail
      subst hwo
      go_loopw [19] (fun j wq => ∃ i : Nat, i ≤ n ∧ j = .int .i64 i ∧ wq.ownsRow (w.heap.size + 1) 3 1 (.slice (some ⟨(w.heap.size + 1), 0, none⟩) n n) n ((row win wf n k i).map (Value.int .i64)) ∧ Only (w.heap.size + 1) ((w.heap.size + 1) + 1) w3 wq) (fun j _ => n - (intOf j).toNat)
      case atStart => exact ⟨0, Nat.zero_le _, rfl, HO.out, HON.out⟩
      case round =>
        obtain ⟨i, hin, rfl, hown, hon⟩ := hrel
        clear HO HON
        have hsz := hon.size
        by_cases hil : i < n
        · have hbr := hbx3.only hon (by omega)
          have HCS := Lib.hid (HSwg.out k i wr hlt hil)
          have HON := Lib.hid hon
          have HOW := Lib.hid hown
          have HPP := Lib.hid (fun (h : sw win k i = true) => show 1 ≤ pc k from pc_pos ⟨i, by omega⟩ ⟨k, by omega⟩ (by
            have h2 := dg_le k i
            cases hx : dg k i with
            | zero => rw [sw_zero hx] at h; cases h
            | succ m => rw [hx] at h2; omega))
          clear hown hon
          cases hs : sw win k i
          · have HK := Lib.hid (row_skip (wf := wf) n hs)
            rw [hs] at HCS
            clear hs
            go_wp2_with (refine wp_load rfl _ rfl _ n (upto win N) rfl hbr ?_)
            refine HCS.out.mono ?_
            rintro e w4 ⟨rfl, hb4⟩
            have HO4 := Lib.hid (ownsRow_block HOW.out (fun g hg => hb4.block g (HOW.out.lt g hg).2))
            have HON4 := Lib.hid (HON.out.trans (Only.of_below (lo := (w.heap.size + 1)) (hi := (w.heap.size + 1) + 1) hb4))
            clear hb4
            go_wp2_with fail
            go_roundw
            case rel => exact ⟨i + 1, by omega, by go_num, by rw [HK.out]; exact HO4.out, HON4.out⟩
            case measure => simp [intOf]; omega
          · have HK := Lib.hid (row_set (wf := wf) hil hs)
            rw [hs] at HCS
            go_wp2_with (refine wp_load rfl _ rfl _ n (upto win N) rfl hbr ?_)
            refine HCS.out.mono ?_
            rintro e w4 ⟨rfl, hb4⟩
            have hown := ownsRow_block HOW.out (fun g hg => hb4.block g (HOW.out.lt g hg).2)
            have HON4 := Lib.hid (HON.out.trans (Only.of_below (lo := (w.heap.size + 1)) (hi := (w.heap.size + 1) + 1) hb4))
            have s4 := hb4.size
            clear hb4
            have hbd := sT_bd (win := win) HWB.out i k
            have hwd := HWB.out (pc k)
            have hpn := HPB.out k hlt
            have hp1' : 1 ≤ pc k := HPP.out hs
            have HCL := Lib.hid (fun W (hb : Below w.heap.size w W) => HC.out (pc k) W hp1' hpn hb)
            have HON8 := Lib.hid (fun W => ones_any k W (by omega))
            have HB4 := Lib.hid (HB3.out.trans ((HON4.out.below (by omega)).mono (by omega)))
            have hcell : w4.cell? ⟨(w.heap.size + 1), i, none⟩ = some (.int .i64 (sT win wf i k)) := by rw [hown.cellAt i (by omega), row_cell _ _ _ _ _ hil]
            have hfro := hown.frozenAt i
            have hst := hown.stored i (.int .i64 (sT win wf i k + wf (pc k)))
            rw [HK.out] at hst
            have HST := Lib.hid hst
            have HON5 := Lib.hid (HON4.out.trans (only_set w4 (w.heap.size + 1) i (.int .i64 (sT win wf i k + wf (pc k)))))
            have e5 : IntKind.u64.wrap (k : Int) = (k : Int) := IntWalk.u64_in _ (by omega)
            have e6 : IntKind.i64.wrap (sT win wf i k + wf (pc k)) = sT win wf i k + wf (pc k) := IntWalk.i64_in _ (by omega)
            have i1 : (0 : Int) ≤ (i : Int) := by omega
            have i2 : (i : Int) < (n : Int) := by omega
            have he := HE.out
            unfold Enters at he
            clear hst hown hbd hwd hpn hp1' hs
            generalize sT win wf i k = s at *
            generalize pc k = pk at *
            generalize wf pk = x at *
            go_wp2_with fail
            refine wp_region_any (by kernel_rfl) ?_
            try (change wpAny _ _ _ _ _ _ _ (World.drew _))
            refine wpAny_take (i := 0) (v := ?_) rfl (by kernel_rfl) (by kernel_rfl) (by kernel_rfl) (fun _ _ _ h => h) (Or.inl ⟨by rfl, ?_⟩) ?_
            rotate_left
            · intro w; go_simp; try with_reducible rfl
            try simp only [List.getElem_toArray, List.getElem_cons_succ, List.getElem_cons_zero, Act.put, List.setIfInBounds_toArray, List.set_cons_zero, List.set_cons_succ]
            refine wpAny_take (i := 1) (v := ?_) rfl (by kernel_rfl) (by kernel_rfl) (by kernel_rfl) (fun _ _ _ h => h) (Or.inl ⟨by rfl, ?_⟩) ?_
            rotate_left
            · intro w; go_simp; try with_reducible rfl
            try simp only [List.getElem_toArray, List.getElem_cons_succ, List.getElem_cons_zero, Act.put, List.setIfInBounds_toArray, List.set_cons_zero, List.set_cons_succ]
            refine wpAny_take (i := 2) (v := ?_) rfl (by kernel_rfl) (by kernel_rfl) (by kernel_rfl) (fun _ _ _ h => h) (Or.inl ⟨by rfl, ?_⟩) ?_
            rotate_left
            · intro w; go_simp; try with_reducible rfl
            try simp only [List.getElem_toArray, List.getElem_cons_succ, List.getElem_cons_zero, Act.put, List.setIfInBounds_toArray, List.set_cons_zero, List.set_cons_succ]
            refine wpAny_take (i := 4) (v := ?_) rfl (by kernel_rfl) (by kernel_rfl) (by kernel_rfl) (fun _ _ _ h => h) (Or.inl ⟨by rfl, ?_⟩) ?_
            rotate_left
            · intro w; go_simp; try with_reducible rfl
            try simp only [List.getElem_toArray, List.getElem_cons_succ, List.getElem_cons_zero, Act.put, List.setIfInBounds_toArray, List.set_cons_zero, List.set_cons_succ]
            refine wpAny_take (i := 5) (v := ?_) rfl (by kernel_rfl) (by kernel_rfl) (by kernel_rfl) (fun _ _ _ h => h) (Or.inl ⟨by rfl, ?_⟩) ?_
            rotate_left
            · intro w; go_simp; try with_reducible rfl
            try simp only [List.getElem_toArray, List.getElem_cons_succ, List.getElem_cons_zero, Act.put, List.setIfInBounds_toArray, List.set_cons_zero, List.set_cons_succ]
            refine wpAny_take (i := 6) (v := ?_) rfl (by kernel_rfl) (by kernel_rfl) (by kernel_rfl) (fun _ _ _ h => h) (Or.inl ⟨by rfl, ?_⟩) ?_
            rotate_left
            · intro w; go_simp; try with_reducible rfl
            try simp only [List.getElem_toArray, List.getElem_cons_succ, List.getElem_cons_zero, Act.put, List.setIfInBounds_toArray, List.set_cons_zero, List.set_cons_succ]
            refine wpAny_ready (rs := [3, 7]) (by kernel_rfl) (by simp) ?_
            refine AllReady.cons rfl (fun K hK => ?_) ?_
            · skip
              go_simp
              refine hK _ _ ?_
              clear hK K
              try simp only [List.getElem_toArray, List.getElem_cons_succ, List.getElem_cons_zero, Act.put, List.setIfInBounds_toArray, List.set_cons_zero, List.set_cons_succ]
              refine wpAny_ready (rs := [7]) (by kernel_rfl) (by simp) ?_
              refine AllReady.cons rfl (fun K hK => ?_) AllReady.nil
              go_simp
              refine (HON8.out _).mono ?_
              rintro e w' ⟨rfl, rfl⟩
              refine hK _ _ ?_
              clear hK K
              try simp only [List.getElem_toArray, List.getElem_cons_succ, List.getElem_cons_zero, Act.put, List.setIfInBounds_toArray, List.set_cons_zero, List.set_cons_succ]
              refine wpAny_ready (rs := [8]) (by kernel_rfl) (by simp) ?_
              refine AllReady.cons rfl (fun K hK => ?_) AllReady.nil
              go_simp
              refine (HCL.out _ HB4.out.drew).mono ?_
              rintro e w' ⟨rfl, m, rfl⟩
              refine hK _ _ ?_
              clear hK K
              try simp only [List.getElem_toArray, List.getElem_cons_succ, List.getElem_cons_zero, Act.put, List.setIfInBounds_toArray, List.set_cons_zero, List.set_cons_succ]
              refine wpAny_take (i := 9) (v := ?_) rfl (by kernel_rfl) (by kernel_rfl) (by kernel_rfl) (fun _ _ _ h => h) (Or.inl ⟨by rfl, ?_⟩) ?_
              rotate_left
              · intro w; go_simp; try with_reducible rfl
              try simp only [List.getElem_toArray, List.getElem_cons_succ, List.getElem_cons_zero, Act.put, List.setIfInBounds_toArray, List.set_cons_zero, List.set_cons_succ]
              refine wpAny_take (i := 10) (v := ?_) rfl (by kernel_rfl) (by kernel_rfl) (by kernel_rfl) (fun _ _ _ h => h) (Or.inl ⟨by rfl, ?_⟩) ?_
              rotate_left
              · intro w; go_simp; try with_reducible rfl
              try simp only [List.getElem_toArray, List.getElem_cons_succ, List.getElem_cons_zero, Act.put, List.setIfInBounds_toArray, List.set_cons_zero, List.set_cons_succ]
              refine wpAny_ready (rs := [11]) (by kernel_rfl) (by simp) ?_
              refine AllReady.cons rfl (fun K hK => ?_) AllReady.nil
              go_simp
              refine hK _ _ ?_
              clear hK K
              try simp only [List.getElem_toArray, List.getElem_cons_succ, List.getElem_cons_zero, Act.put, List.setIfInBounds_toArray, List.set_cons_zero, List.set_cons_succ]
              refine wpAny_done (by kernel_rfl) ?_ _
              go_wp2_with fail
              go_roundw
              case rel => exact ⟨i + 1, by omega, by go_num, HST.out.1, HON5.out.drewN (1 + m)⟩
              case measure => simp [intOf]; omega
            refine AllReady.cons rfl (fun K hK => ?_) AllReady.nil
            go_simp
            refine (HON8.out _).mono ?_
            rintro e w' ⟨rfl, rfl⟩
            refine hK _ _ ?_
            clear hK K
            try simp only [List.getElem_toArray, List.getElem_cons_succ, List.getElem_cons_zero, Act.put, List.setIfInBounds_toArray, List.set_cons_zero, List.set_cons_succ]
            refine wpAny_ready (rs := [3, 8]) (by kernel_rfl) (by simp) ?_
            refine AllReady.cons rfl (fun K hK => ?_) ?_
            · skip
              go_simp
              refine hK _ _ ?_
              clear hK K
              try simp only [List.getElem_toArray, List.getElem_cons_succ, List.getElem_cons_zero, Act.put, List.setIfInBounds_toArray, List.set_cons_zero, List.set_cons_succ]
              refine wpAny_ready (rs := [8]) (by kernel_rfl) (by simp) ?_
              refine AllReady.cons rfl (fun K hK => ?_) AllReady.nil
              go_simp
              refine (HCL.out _ HB4.out.drew).mono ?_
              rintro e w' ⟨rfl, m, rfl⟩
              refine hK _ _ ?_
              clear hK K
              try simp only [List.getElem_toArray, List.getElem_cons_succ, List.getElem_cons_zero, Act.put, List.setIfInBounds_toArray, List.set_cons_zero, List.set_cons_succ]
              refine wpAny_take (i := 9) (v := ?_) rfl (by kernel_rfl) (by kernel_rfl) (by kernel_rfl) (fun _ _ _ h => h) (Or.inl ⟨by rfl, ?_⟩) ?_
              rotate_left
              · intro w; go_simp; try with_reducible rfl
              try simp only [List.getElem_toArray, List.getElem_cons_succ, List.getElem_cons_zero, Act.put, List.setIfInBounds_toArray, List.set_cons_zero, List.set_cons_succ]
              refine wpAny_take (i := 10) (v := ?_) rfl (by kernel_rfl) (by kernel_rfl) (by kernel_rfl) (fun _ _ _ h => h) (Or.inl ⟨by rfl, ?_⟩) ?_
              rotate_left
              · intro w; go_simp; try with_reducible rfl
              try simp only [List.getElem_toArray, List.getElem_cons_succ, List.getElem_cons_zero, Act.put, List.setIfInBounds_toArray, List.set_cons_zero, List.set_cons_succ]
              refine wpAny_ready (rs := [11]) (by kernel_rfl) (by simp) ?_
              refine AllReady.cons rfl (fun K hK => ?_) AllReady.nil
              go_simp
              refine hK _ _ ?_
              clear hK K
              try simp only [List.getElem_toArray, List.getElem_cons_succ, List.getElem_cons_zero, Act.put, List.setIfInBounds_toArray, List.set_cons_zero, List.set_cons_succ]
              refine wpAny_done (by kernel_rfl) ?_ _
              go_wp2_with fail
              go_roundw
              case rel => exact ⟨i + 1, by omega, by go_num, HST.out.1, HON5.out.drewN (1 + m)⟩
              case measure => simp [intOf]; omega
            refine AllReady.cons rfl (fun K hK => ?_) AllReady.nil
            go_simp
            refine (HCL.out _ HB4.out.drew).mono ?_
            rintro e w' ⟨rfl, m, rfl⟩
            refine hK _ _ ?_
            clear hK K
            try simp only [List.getElem_toArray, List.getElem_cons_succ, List.getElem_cons_zero, Act.put, List.setIfInBounds_toArray, List.set_cons_zero, List.set_cons_succ]
            refine wpAny_ready (rs := [3]) (by kernel_rfl) (by simp) ?_
            refine AllReady.cons rfl (fun K hK => ?_) AllReady.nil
            go_simp
            refine hK _ _ ?_
            clear hK K
            try simp only [List.getElem_toArray, List.getElem_cons_succ, List.getElem_cons_zero, Act.put, List.setIfInBounds_toArray, List.set_cons_zero, List.set_cons_succ]
            refine wpAny_take (i := 9) (v := ?_) rfl (by kernel_rfl) (by kernel_rfl) (by kernel_rfl) (fun _ _ _ h => h) (Or.inl ⟨by rfl, ?_⟩) ?_
            rotate_left
            · intro w; go_simp; try with_reducible rfl
            try simp only [List.getElem_toArray, List.getElem_cons_succ, List.getElem_cons_zero, Act.put, List.setIfInBounds_toArray, List.set_cons_zero, List.set_cons_succ]
            refine wpAny_take (i := 10) (v := ?_) rfl (by kernel_rfl) (by kernel_rfl) (by kernel_rfl) (fun _ _ _ h => h) (Or.inl ⟨by rfl, ?_⟩) ?_
            rotate_left
            · intro w; go_simp; try with_reducible rfl
            try simp only [List.getElem_toArray, List.getElem_cons_succ, List.getElem_cons_zero, Act.put, List.setIfInBounds_toArray, List.set_cons_zero, List.set_cons_succ]
            refine wpAny_ready (rs := [11]) (by kernel_rfl) (by simp) ?_
            refine AllReady.cons rfl (fun K hK => ?_) AllReady.nil
            go_simp
            refine hK _ _ ?_
            clear hK K
            try simp only [List.getElem_toArray, List.getElem_cons_succ, List.getElem_cons_zero, Act.put, List.setIfInBounds_toArray, List.set_cons_zero, List.set_cons_succ]
            refine wpAny_done (by kernel_rfl) ?_ _
            go_wp2_with fail
            go_roundw
            case rel => exact ⟨i + 1, by omega, by go_num, HST.out.1, HON5.out.drewN (1 + m)⟩
            case measure => simp [intOf]; omega
        · obtain rfl : i = n := by omega
          rw [row_next] at hown
          have HO2 := Lib.hid hown
          have HON := Lib.hid hon
          clear hown hon
          go_wp2_with fail
          go_roundw
          case rel => exact ⟨k + 1, by omega, by go_num, HO2.out, HON.out⟩
          case measure => simp [intOf]; omega
    · obtain rfl : k = N := by omega
      have HF := Lib.hid (show intfns.Made (row win wf n k 0) w (.returned (.slice (some ⟨(w.heap.size + 1), 0, none⟩) n n)) wr from ⟨_, rfl, ((OwnI.of (by rw [row_length]; exact hown)).mono (by omega) (Nat.le_refl _)), HB3.out.trans ((hon.below (by omega)).mono (by omega))⟩)
      clear hown hon hwo
      go_wp2_with fail
      go_ret
      exact HF.out
set_option maxRecDepth 100000 in
set_option maxHeartbeats 4000000 in
theorem sums1 (fn : Nat) (he : Enters Try.prog fn) (c1 : Value) (wf : Nat → Int) (n : Nat) (win : Nat → Bool) (w : World) (h8 : n ≤ 8) (hwb : ∀ s, 0 ≤ wf s ∧ wf s ≤ 1625702400)
    (HC : Hid (∀ (s : Nat) (wr : World), 1 ≤ s → s ≤ n → Below w.heap.size w wr → Calls Try.prog fn #[.int .i64 s, c1] wr fun e w' => e = .returned (.int .i64 (wf s)) ∧ ∃ m, w' = wr.drewN m)) :
    Calls Try.prog 61 #[.agg (oc n (upto win (2 ^ n))), .func (.func fn) #[] #[c1]] w (intfns.Made (row win wf n (2 ^ n) 0) w) := by
  obtain ⟨i0, hi, hz0, hz1, hz2⟩ := info_parts mk.infoInt
  obtain ⟨hp1, hp2⟩ := pow8 h8
  have HWB := Lib.hid hwb
  have HAll := Lib.hid (fun W => all_any n (upto win (2 ^ n)) W h8)
  have HPB := Lib.hid (fun k (h : k < 2 ^ n) => show pc k ≤ n from pc_bd ⟨n, by omega⟩ ⟨k, by omega⟩ h)
  have HSwg := Lib.hid (fun k i W (hk : k < 2 ^ n) (hi : i < n) => swing_any n (upto win (2 ^ n)) k i W (by omega) (by omega) (sw win k i) (Lib.hid (by
    have := off_le k i
    rw [upto_at _ _ _ hk, upto_at _ _ _ (by omega)]
    rfl)))
  obtain ⟨N, hN⟩ : ∃ N : Nat, 2 ^ n = N := ⟨_, rfl⟩
  have HN := Lib.hid hN
  have HE := Lib.hid he
  rw [hN] at hp1 hp2 HAll HPB HSwg ⊢
  have c0 := oc_zero n (upto win N)
  clear hN hwb he
  go_enter Try.func61, Try.ntmps61
  obtain ⟨w0, hw0⟩ : ∃ w0 : World, w0 = w.alloc (.cells (oc n (upto win N)) 53) := ⟨_, rfl⟩
  have hbx : Box w0 w.heap.size n (upto win N) := by rw [hw0]; exact Box.new w n _
  have HB0 := Lib.hid (show Below w.heap.size w w0 by rw [hw0]; exact below_alloc w _)
  have s0 : w.heap.size + 1 ≤ w0.heap.size ∧ w0.heap.size ≤ w.heap.size + 1 := by rw [hw0]; simp
  have hzz : (w.alloc (.cells (oc n (upto win N)) 53)).heap.size = w.heap.size + 1 := by simp
  go_wp2_with (refine wpList_make_full _ rfl _ _ 22 rfl (w.heap.size + 1) 3 i0 (.int .i64 0) 1 Try.underlying22 hi hz0 hz1 .i64 .i64 _ _ n rfl rfl rfl rfl (by rw [hz2]; omega) (by unfold maxLen; omega) (by simp) ?_; intro w2 hown2 hgrow2; refine Hid.out ?_)
  refine Lib.hid ?_
  simp only [hzz] at hown2 ⊢
  rw [← hw0] at hgrow2
  clear hw0 c0 hzz
  have s0' := s0.2
  have hb2 : Below (w.heap.size + 1) w0 w2 := (Below.refl _ _).grown hgrow2 s0.1 (by simp)
  have e0 : List.replicate n (Value.int .i64 0) = (row win wf n 0 0).map (Value.int .i64) := by rw [row_zero, List.map_replicate]
  rw [show (Value.int .i64 0).cells = #[Value.int .i64 0] from rfl, Nat.mul_one, toList_madeCells_one, e0] at hown2
  have HB2 := Lib.hid (HB0.out.trans (hb2.mono (by omega)))
  have s2 : (w.heap.size + 1) < w2.heap.size := (hown2.lt _ rfl).2
  have hbx2 := hbx.below hb2 (by omega)
  clear e0 hgrow2 hb2 hbx
  go_wp2_with (refine wp_load rfl _ rfl _ n (upto win N) rfl hbx2 ?_)
  refine (HAll.out _).mono ?_
  rintro e w3 ⟨rfl, hb3⟩
  have hbx3 := hbx2.below hb3 (by omega)
  have HO3 := Lib.hid (ownsRow_block hown2 (fun g hg => hb3.block g (hown2.lt g hg).2))
  have HB3 := Lib.hid (HB2.out.trans (hb3.mono (by omega)))
  have s3 := hb3.size
  clear hb3 hown2 hbx2
  go_wp2_with fail
  go_loopw [14] (fun i wr => ∃ k : Nat, k ≤ N ∧ i = .int .i64 k ∧ wr.ownsRow (w.heap.size + 1) 3 1 (.slice (some ⟨(w.heap.size + 1), 0, none⟩) n n) n ((row win wf n k 0).map (Value.int .i64)) ∧ Only (w.heap.size + 1) ((w.heap.size + 1) + 1) w3 wr) (fun i _ => N - (intOf i).toNat)
  case atStart => exact ⟨0, Nat.zero_le _, rfl, HO3.out, Only.refl _ _ _⟩
  case round =>
    obtain ⟨k, hk, rfl, hown, hon⟩ := hrel
    clear HO3
    obtain ⟨wo, hwo⟩ : ∃ wo : World, wo = wr := ⟨_, rfl⟩
    by_cases hlt : k < N
    · have HO := Lib.hid hown
      have HON := Lib.hid hon
      clear hown hon
      go_wp2_with fail
      subst hwo
      go_loopw [19] (fun j wq => ∃ i : Nat, i ≤ n ∧ j = .int .i64 i ∧ wq.ownsRow (w.heap.size + 1) 3 1 (.slice (some ⟨(w.heap.size + 1), 0, none⟩) n n) n ((row win wf n k i).map (Value.int .i64)) ∧ Only (w.heap.size + 1) ((w.heap.size + 1) + 1) w3 wq) (fun j _ => n - (intOf j).toNat)
      case atStart => exact ⟨0, Nat.zero_le _, rfl, HO.out, HON.out⟩
      case round =>
        obtain ⟨i, hin, rfl, hown, hon⟩ := hrel
        clear HO HON
        have hsz := hon.size
        by_cases hil : i < n
        · have hbr := hbx3.only hon (by omega)
          have HCS := Lib.hid (HSwg.out k i wr hlt hil)
          have HON := Lib.hid hon
          have HOW := Lib.hid hown
          have HPP := Lib.hid (fun (h : sw win k i = true) => show 1 ≤ pc k from pc_pos ⟨i, by omega⟩ ⟨k, by omega⟩ (by
            have h2 := dg_le k i
            cases hx : dg k i with
            | zero => rw [sw_zero hx] at h; cases h
            | succ m => rw [hx] at h2; omega))
          clear hown hon
          cases hs : sw win k i
          · have HK := Lib.hid (row_skip (wf := wf) n hs)
            rw [hs] at HCS
            clear hs
            go_wp2_with (refine wp_load rfl _ rfl _ n (upto win N) rfl hbr ?_)
            refine HCS.out.mono ?_
            rintro e w4 ⟨rfl, hb4⟩
            have HO4 := Lib.hid (ownsRow_block HOW.out (fun g hg => hb4.block g (HOW.out.lt g hg).2))
            have HON4 := Lib.hid (HON.out.trans (Only.of_below (lo := (w.heap.size + 1)) (hi := (w.heap.size + 1) + 1) hb4))
            clear hb4
            go_wp2_with fail
            go_roundw
            case rel => exact ⟨i + 1, by omega, by go_num, by rw [HK.out]; exact HO4.out, HON4.out⟩
            case measure => simp [intOf]; omega
          · have HK := Lib.hid (row_set (wf := wf) hil hs)
            rw [hs] at HCS
            go_wp2_with (refine wp_load rfl _ rfl _ n (upto win N) rfl hbr ?_)
            refine HCS.out.mono ?_
            rintro e w4 ⟨rfl, hb4⟩
            have hown := ownsRow_block HOW.out (fun g hg => hb4.block g (HOW.out.lt g hg).2)
            have HON4 := Lib.hid (HON.out.trans (Only.of_below (lo := (w.heap.size + 1)) (hi := (w.heap.size + 1) + 1) hb4))
            have s4 := hb4.size
            clear hb4
            have hbd := sT_bd (win := win) HWB.out i k
            have hwd := HWB.out (pc k)
            have hpn := HPB.out k hlt
            have hp1' : 1 ≤ pc k := HPP.out hs
            have HCL := Lib.hid (fun W (hb : Below w.heap.size w W) => HC.out (pc k) W hp1' hpn hb)
            have HON8 := Lib.hid (fun W => ones_any k W (by omega))
            have HB4 := Lib.hid (HB3.out.trans ((HON4.out.below (by omega)).mono (by omega)))
            have hcell : w4.cell? ⟨(w.heap.size + 1), i, none⟩ = some (.int .i64 (sT win wf i k)) := by rw [hown.cellAt i (by omega), row_cell _ _ _ _ _ hil]
            have hfro := hown.frozenAt i
            have hst := hown.stored i (.int .i64 (sT win wf i k + wf (pc k)))
            rw [HK.out] at hst
            have HST := Lib.hid hst
            have HON5 := Lib.hid (HON4.out.trans (only_set w4 (w.heap.size + 1) i (.int .i64 (sT win wf i k + wf (pc k)))))
            have e5 : IntKind.u64.wrap (k : Int) = (k : Int) := IntWalk.u64_in _ (by omega)
            have e6 : IntKind.i64.wrap (sT win wf i k + wf (pc k)) = sT win wf i k + wf (pc k) := IntWalk.i64_in _ (by omega)
            have i1 : (0 : Int) ≤ (i : Int) := by omega
            have i2 : (i : Int) < (n : Int) := by omega
            have he := HE.out
            unfold Enters at he
            clear hst hown hbd hwd hpn hp1' hs
            generalize sT win wf i k = s at *
            generalize pc k = pk at *
            generalize wf pk = x at *
            go_wp2_with fail
            refine wp_region_any (by kernel_rfl) ?_
            try (change wpAny _ _ _ _ _ _ _ (World.drew _))
            refine wpAny_take (i := 0) (v := ?_) rfl (by kernel_rfl) (by kernel_rfl) (by kernel_rfl) (fun _ _ _ h => h) (Or.inl ⟨by rfl, ?_⟩) ?_
            rotate_left
            · intro w; go_simp; try with_reducible rfl
            try simp only [List.getElem_toArray, List.getElem_cons_succ, List.getElem_cons_zero, Act.put, List.setIfInBounds_toArray, List.set_cons_zero, List.set_cons_succ]
            refine wpAny_take (i := 1) (v := ?_) rfl (by kernel_rfl) (by kernel_rfl) (by kernel_rfl) (fun _ _ _ h => h) (Or.inl ⟨by rfl, ?_⟩) ?_
            rotate_left
            · intro w; go_simp; try with_reducible rfl
            try simp only [List.getElem_toArray, List.getElem_cons_succ, List.getElem_cons_zero, Act.put, List.setIfInBounds_toArray, List.set_cons_zero, List.set_cons_succ]
            refine wpAny_take (i := 2) (v := ?_) rfl (by kernel_rfl) (by kernel_rfl) (by kernel_rfl) (fun _ _ _ h => h) (Or.inl ⟨by rfl, ?_⟩) ?_
            rotate_left
            · intro w; go_simp; try with_reducible rfl
            try simp only [List.getElem_toArray, List.getElem_cons_succ, List.getElem_cons_zero, Act.put, List.setIfInBounds_toArray, List.set_cons_zero, List.set_cons_succ]
            refine wpAny_take (i := 4) (v := ?_) rfl (by kernel_rfl) (by kernel_rfl) (by kernel_rfl) (fun _ _ _ h => h) (Or.inl ⟨by rfl, ?_⟩) ?_
            rotate_left
            · intro w; go_simp; try with_reducible rfl
            try simp only [List.getElem_toArray, List.getElem_cons_succ, List.getElem_cons_zero, Act.put, List.setIfInBounds_toArray, List.set_cons_zero, List.set_cons_succ]
            refine wpAny_take (i := 5) (v := ?_) rfl (by kernel_rfl) (by kernel_rfl) (by kernel_rfl) (fun _ _ _ h => h) (Or.inl ⟨by rfl, ?_⟩) ?_
            rotate_left
            · intro w; go_simp; try with_reducible rfl
            try simp only [List.getElem_toArray, List.getElem_cons_succ, List.getElem_cons_zero, Act.put, List.setIfInBounds_toArray, List.set_cons_zero, List.set_cons_succ]
            refine wpAny_take (i := 6) (v := ?_) rfl (by kernel_rfl) (by kernel_rfl) (by kernel_rfl) (fun _ _ _ h => h) (Or.inl ⟨by rfl, ?_⟩) ?_
            rotate_left
            · intro w; go_simp; try with_reducible rfl
            try simp only [List.getElem_toArray, List.getElem_cons_succ, List.getElem_cons_zero, Act.put, List.setIfInBounds_toArray, List.set_cons_zero, List.set_cons_succ]
            refine wpAny_ready (rs := [3, 7]) (by kernel_rfl) (by simp) ?_
            refine AllReady.cons rfl (fun K hK => ?_) ?_
            · skip
              go_simp
              refine hK _ _ ?_
              clear hK K
              try simp only [List.getElem_toArray, List.getElem_cons_succ, List.getElem_cons_zero, Act.put, List.setIfInBounds_toArray, List.set_cons_zero, List.set_cons_succ]
              refine wpAny_ready (rs := [7]) (by kernel_rfl) (by simp) ?_
              refine AllReady.cons rfl (fun K hK => ?_) AllReady.nil
              go_simp
              refine (HON8.out _).mono ?_
              rintro e w' ⟨rfl, rfl⟩
              refine hK _ _ ?_
              clear hK K
              try simp only [List.getElem_toArray, List.getElem_cons_succ, List.getElem_cons_zero, Act.put, List.setIfInBounds_toArray, List.set_cons_zero, List.set_cons_succ]
              refine wpAny_ready (rs := [8]) (by kernel_rfl) (by simp) ?_
              refine AllReady.cons rfl (fun K hK => ?_) AllReady.nil
              go_simp
              refine (HCL.out _ HB4.out.drew).mono ?_
              rintro e w' ⟨rfl, m, rfl⟩
              refine hK _ _ ?_
              clear hK K
              try simp only [List.getElem_toArray, List.getElem_cons_succ, List.getElem_cons_zero, Act.put, List.setIfInBounds_toArray, List.set_cons_zero, List.set_cons_succ]
              refine wpAny_take (i := 9) (v := ?_) rfl (by kernel_rfl) (by kernel_rfl) (by kernel_rfl) (fun _ _ _ h => h) (Or.inl ⟨by rfl, ?_⟩) ?_
              rotate_left
              · intro w; go_simp; try with_reducible rfl
              try simp only [List.getElem_toArray, List.getElem_cons_succ, List.getElem_cons_zero, Act.put, List.setIfInBounds_toArray, List.set_cons_zero, List.set_cons_succ]
              refine wpAny_take (i := 10) (v := ?_) rfl (by kernel_rfl) (by kernel_rfl) (by kernel_rfl) (fun _ _ _ h => h) (Or.inl ⟨by rfl, ?_⟩) ?_
              rotate_left
              · intro w; go_simp; try with_reducible rfl
              try simp only [List.getElem_toArray, List.getElem_cons_succ, List.getElem_cons_zero, Act.put, List.setIfInBounds_toArray, List.set_cons_zero, List.set_cons_succ]
              refine wpAny_ready (rs := [11]) (by kernel_rfl) (by simp) ?_
              refine AllReady.cons rfl (fun K hK => ?_) AllReady.nil
              go_simp
              refine hK _ _ ?_
              clear hK K
              try simp only [List.getElem_toArray, List.getElem_cons_succ, List.getElem_cons_zero, Act.put, List.setIfInBounds_toArray, List.set_cons_zero, List.set_cons_succ]
              refine wpAny_done (by kernel_rfl) ?_ _
              go_wp2_with fail
              go_roundw
              case rel => exact ⟨i + 1, by omega, by go_num, HST.out.1, HON5.out.drewN (1 + m)⟩
              case measure => simp [intOf]; omega
            refine AllReady.cons rfl (fun K hK => ?_) AllReady.nil
            go_simp
            refine (HON8.out _).mono ?_
            rintro e w' ⟨rfl, rfl⟩
            refine hK _ _ ?_
            clear hK K
            try simp only [List.getElem_toArray, List.getElem_cons_succ, List.getElem_cons_zero, Act.put, List.setIfInBounds_toArray, List.set_cons_zero, List.set_cons_succ]
            refine wpAny_ready (rs := [3, 8]) (by kernel_rfl) (by simp) ?_
            refine AllReady.cons rfl (fun K hK => ?_) ?_
            · skip
              go_simp
              refine hK _ _ ?_
              clear hK K
              try simp only [List.getElem_toArray, List.getElem_cons_succ, List.getElem_cons_zero, Act.put, List.setIfInBounds_toArray, List.set_cons_zero, List.set_cons_succ]
              refine wpAny_ready (rs := [8]) (by kernel_rfl) (by simp) ?_
              refine AllReady.cons rfl (fun K hK => ?_) AllReady.nil
              go_simp
              refine (HCL.out _ HB4.out.drew).mono ?_
              rintro e w' ⟨rfl, m, rfl⟩
              refine hK _ _ ?_
              clear hK K
              try simp only [List.getElem_toArray, List.getElem_cons_succ, List.getElem_cons_zero, Act.put, List.setIfInBounds_toArray, List.set_cons_zero, List.set_cons_succ]
              refine wpAny_take (i := 9) (v := ?_) rfl (by kernel_rfl) (by kernel_rfl) (by kernel_rfl) (fun _ _ _ h => h) (Or.inl ⟨by rfl, ?_⟩) ?_
              rotate_left
              · intro w; go_simp; try with_reducible rfl
              try simp only [List.getElem_toArray, List.getElem_cons_succ, List.getElem_cons_zero, Act.put, List.setIfInBounds_toArray, List.set_cons_zero, List.set_cons_succ]
              refine wpAny_take (i := 10) (v := ?_) rfl (by kernel_rfl) (by kernel_rfl) (by kernel_rfl) (fun _ _ _ h => h) (Or.inl ⟨by rfl, ?_⟩) ?_
              rotate_left
              · intro w; go_simp; try with_reducible rfl
              try simp only [List.getElem_toArray, List.getElem_cons_succ, List.getElem_cons_zero, Act.put, List.setIfInBounds_toArray, List.set_cons_zero, List.set_cons_succ]
              refine wpAny_ready (rs := [11]) (by kernel_rfl) (by simp) ?_
              refine AllReady.cons rfl (fun K hK => ?_) AllReady.nil
              go_simp
              refine hK _ _ ?_
              clear hK K
              try simp only [List.getElem_toArray, List.getElem_cons_succ, List.getElem_cons_zero, Act.put, List.setIfInBounds_toArray, List.set_cons_zero, List.set_cons_succ]
              refine wpAny_done (by kernel_rfl) ?_ _
              go_wp2_with fail
              go_roundw
              case rel => exact ⟨i + 1, by omega, by go_num, HST.out.1, HON5.out.drewN (1 + m)⟩
              case measure => simp [intOf]; omega
            refine AllReady.cons rfl (fun K hK => ?_) AllReady.nil
            go_simp
            refine (HCL.out _ HB4.out.drew).mono ?_
            rintro e w' ⟨rfl, m, rfl⟩
            refine hK _ _ ?_
            clear hK K
            try simp only [List.getElem_toArray, List.getElem_cons_succ, List.getElem_cons_zero, Act.put, List.setIfInBounds_toArray, List.set_cons_zero, List.set_cons_succ]
            refine wpAny_ready (rs := [3]) (by kernel_rfl) (by simp) ?_
            refine AllReady.cons rfl (fun K hK => ?_) AllReady.nil
            go_simp
            refine hK _ _ ?_
            clear hK K
            try simp only [List.getElem_toArray, List.getElem_cons_succ, List.getElem_cons_zero, Act.put, List.setIfInBounds_toArray, List.set_cons_zero, List.set_cons_succ]
            refine wpAny_take (i := 9) (v := ?_) rfl (by kernel_rfl) (by kernel_rfl) (by kernel_rfl) (fun _ _ _ h => h) (Or.inl ⟨by rfl, ?_⟩) ?_
            rotate_left
            · intro w; go_simp; try with_reducible rfl
            try simp only [List.getElem_toArray, List.getElem_cons_succ, List.getElem_cons_zero, Act.put, List.setIfInBounds_toArray, List.set_cons_zero, List.set_cons_succ]
            refine wpAny_take (i := 10) (v := ?_) rfl (by kernel_rfl) (by kernel_rfl) (by kernel_rfl) (fun _ _ _ h => h) (Or.inl ⟨by rfl, ?_⟩) ?_
            rotate_left
            · intro w; go_simp; try with_reducible rfl
            try simp only [List.getElem_toArray, List.getElem_cons_succ, List.getElem_cons_zero, Act.put, List.setIfInBounds_toArray, List.set_cons_zero, List.set_cons_succ]
            refine wpAny_ready (rs := [11]) (by kernel_rfl) (by simp) ?_
            refine AllReady.cons rfl (fun K hK => ?_) AllReady.nil
            go_simp
            refine hK _ _ ?_
            clear hK K
            try simp only [List.getElem_toArray, List.getElem_cons_succ, List.getElem_cons_zero, Act.put, List.setIfInBounds_toArray, List.set_cons_zero, List.set_cons_succ]
            refine wpAny_done (by kernel_rfl) ?_ _
            go_wp2_with fail
            go_roundw
            case rel => exact ⟨i + 1, by omega, by go_num, HST.out.1, HON5.out.drewN (1 + m)⟩
            case measure => simp [intOf]; omega
        · obtain rfl : i = n := by omega
          rw [row_next] at hown
          have HO2 := Lib.hid hown
          have HON := Lib.hid hon
          clear hown hon
          go_wp2_with fail
          go_roundw
          case rel => exact ⟨k + 1, by omega, by go_num, HO2.out, HON.out⟩
          case measure => simp [intOf]; omega
    · obtain rfl : k = N := by omega
      have HF := Lib.hid (show intfns.Made (row win wf n k 0) w (.returned (.slice (some ⟨(w.heap.size + 1), 0, none⟩) n n)) wr from ⟨_, rfl, ((OwnI.of (by rw [row_length]; exact hown)).mono (by omega) (Nat.le_refl _)), HB3.out.trans ((hon.below (by omega)).mono (by omega))⟩)
      clear hown hon hwo
      go_wp2_with fail
      go_ret
      exact HF.out
end Go.Proofs.Ytkcpncngkmnmdaa.sums6
