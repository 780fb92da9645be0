/- The walk of the model's search of a trade. -/
import Derived.Test.YtchlkcmgonbcjaaFindP
import Derived.Test.YtchlkcmgonbcjaaMk
import Derived.BigQuiet
namespace Go.Proofs.Ytchlkcmgonbcjaa.finds
open Go.RowKit own pp nums range tab pairw trade findp
set_option linter.unusedVariables false
set_option linter.unusedSimpArgs false

set_option maxRecDepth 100000 in
set_option maxHeartbeats 4000000 in
theorem spec_find (n : Nat) (a0 : Option Addr) (zs : List Int) (c : Nat) (w : World) (hr : ints.Reads .i64 w a0 zs) (hk : tab.tabB n zs = true) :
    Calls Try.prog 67 #[.int .i64 n, .slice a0 zs.length c] w (intfns.Made (findT n zs) w) := by
  obtain ⟨m0, he, h4, hpw, h16, hrg⟩ := tab_nat hk
  obtain rfl : n = m0 := by omega
  have HA := Lib.hid (tab_at hk)
  have HK := Lib.hid hk
  have HR := Lib.hid hr
  clear hk hpw hrg he hr
  go_enter Try.func67, Try.ntmps67
  go_wp2_with fail
  go_loopw [5] (fun i wr => ∃ a : Nat, a ≤ zs.length ∧ i = .int .i64 a ∧ Hid (∀ j, j < code a 0 0 0 → okC n zs j = false) ∧ Below w.heap.size w wr) (fun i _ => zs.length - (intOf i).toNat)
  case atStart => exact ⟨0, Nat.zero_le _, rfl, fun j hj => by unfold code at hj; omega, Below.refl _ _⟩
  case round =>
    obtain ⟨a, ha, rfl, hja, hbel⟩ := hrel
    have HBa := Lib.hid hbel
    clear hbel
    by_cases hal : a < zs.length
    · go_wp2_with fail
      go_loopw [6] (fun i wr2 => ∃ b : Nat, a ≤ b ∧ b ≤ zs.length ∧ i = .int .i64 b ∧ Hid (∀ j, j < code a b 0 0 → okC n zs j = false) ∧ Below w.heap.size w wr2) (fun i _ => zs.length - (intOf i).toNat)
      case atStart => exact ⟨a, Nat.le_refl _, ha, rfl, adv hja.out (fun j h1 h2 h3 => by have := (tr_in (okC_in h3).2).1.1; unfold code at h1 h2; omega), HBa.out⟩
      case round =>
        obtain ⟨b, hab, hb, rfl, hjb, hbel⟩ := hrel
        have HBb := Lib.hid hbel
        clear hbel
        by_cases hbl : b < zs.length
        · obtain ⟨bz, oz, hae, hbz, hca⟩ := (HR.out.below HBb.out).at hal
          subst hae
          obtain ⟨bz2, oz2, e2, hbz2, hcb⟩ := (HR.out.below HBb.out).at hbl
          cases e2
          have i1 : (0 : Int) ≤ (a : Int) := by omega
          have i2 : (a : Int) < (zs.length : Int) := by omega
          have i3 : (0 : Int) ≤ (b : Int) := by omega
          have i4 : (b : Int) < (zs.length : Int) := by omega
          have ba := HA.out a hal
          have bb := HA.out b hbl
          have HCC := Lib.hid (fun (wz : World) (hB : Below w.heap.size w wz) => (HR.out.below hB))
          by_cases h11 : zs.getD a 0 = 1 ∧ zs.getD b 0 = 1
          · obtain ⟨h1a, h1b⟩ := h11
            have HZ := Lib.hid (show zs.getD a 0 = 1 ∧ zs.getD b 0 = 1 from ⟨h1a, h1b⟩)
            clear h1a h1b ba bb hca hcb
            go_wp2_with fail
            go_loopw [7] (fun i wr3 => ∃ cc : Nat, cc ≤ zs.length ∧ i = .int .i64 cc ∧ Hid (∀ j, j < code a b cc 0 → okC n zs j = false) ∧ Below w.heap.size w wr3) (fun i _ => zs.length - (intOf i).toNat)
            case atStart => exact ⟨0, Nat.zero_le _, rfl, hjb, HBb.out⟩
            case round =>
              obtain ⟨cc, hc, rfl, hjc, hbel⟩ := hrel
              have HBc := Lib.hid hbel
              clear hbel
              by_cases hcl : cc < zs.length
              · obtain ⟨bz1, oz1, e1, hbz1, hca⟩ := (HCC.out _ HBc.out).at hal
                cases e1
                obtain ⟨bz2, oz2, e2, hbz2, hcb⟩ := (HCC.out _ HBc.out).at hbl
                cases e2
                rw [HZ.out.1] at hca
                rw [HZ.out.2] at hcb
                go_wp2_with fail
                go_loopw [8] (fun i wr4 => ∃ d : Nat, cc ≤ d ∧ d ≤ zs.length ∧ i = .int .i64 d ∧ Hid (∀ j, j < code a b cc d → okC n zs j = false) ∧ Below w.heap.size w wr4) (fun i _ => zs.length - (intOf i).toNat)
                case atStart => exact ⟨cc, Nat.le_refl _, hc, rfl, adv hjc.out (fun j h1 h2 h3 => by have := (tr_in (okC_in h3).2).1.2; unfold code at h1 h2; omega), HBc.out⟩
                case round =>
                  obtain ⟨d, hcd, hd, rfl, hjd, hbel⟩ := hrel
                  have HBd := Lib.hid hbel
                  have hsz := hbel.size
                  clear hbel
                  by_cases hdl : d < zs.length
                  · have HBn := Lib.hid (HBd.out.alloc hsz (.cells #[.int .i64 a, .int .i64 b, .int .i64 cc, .int .i64 d] 3))
                    have HT := Lib.hid (trade_in (n := n) (zs := zs) (ts := [(a : Int), (b : Int), (cc : Int), (d : Int)]) (a := a) (b := b) (c := cc) (d := d) rfl (by simp [numsR, inR]; omega) rfl rfl rfl rfl)
                    have HRD := Lib.hid (show ints.Reads .i64 (wr.alloc (.cells #[.int .i64 a, .int .i64 b, .int .i64 cc, .int .i64 d] 3)) (some ⟨wr.heap.size, 0, none⟩) [(a : Int), (b : Int), (cc : Int), (d : Int)] from .inr ⟨wr.heap.size, 0, rfl, by simp, fun i hi => by
                      have h4i : i = 0 ∨ i = 1 ∨ i = 2 ∨ i = 3 := by simp at hi; omega
                      rcases h4i with rfl | rfl | rfl | rfl <;> exact cell_new _ _ _ rfl rfl⟩)
                    have HOW := Lib.hid (show (wr.alloc (.cells #[.int .i64 a, .int .i64 b, .int .i64 cc, .int .i64 d] 3)).ownsRow wr.heap.size 3 1 (.slice (some ⟨wr.heap.size, 0, none⟩) 4 4) 4 ([(a : Int), (b : Int), (cc : Int), (d : Int)].map (Value.int .i64)) from ⟨by simp, .inr ⟨wr.heap.size, 4, #[.int .i64 a, .int .i64 b, .int .i64 cc, .int .i64 d], rfl, Nat.le_refl _, heap_alloc_new wr _, Nat.le_refl _, by unfold maxLen; omega, rfl, rfl⟩⟩)
                    cases htr : trN n zs a b cc d
                    · have HC := Lib.hid (spec_trade n _ zs c (some ⟨wr.heap.size, 0, none⟩) [(a : Int), (b : Int), (cc : Int), (d : Int)] 4 _ (HCC.out _ HBn.out) HRD.out (by simp) HK.out false (Lib.hid (by rw [HT.out, htr])))
                      have HJ : Hid (∀ j, j < code a b cc (d + 1) → okC n zs j = false) := adv hjd.out (fun j h1 h2 h3 => by
                        obtain rfl : j = code a b cc d := by unfold code at h1 h2 ⊢; omega
                        rw [okC_at h16 hal hbl hcl hdl, htr] at h3
                        cases h3)
                      clear htr hjd HT HOW hca hcb
                      go_wp2_with fail
                      refine HC.out.mono ?_
                      rintro e w' ⟨rfl, m, rfl⟩
                      go_wp2_with fail
                      go_roundw
                      case rel => exact ⟨d + 1, by omega, by omega, by go_num, HJ, ints.below_drewN HBn.out _⟩
                      case measure => simp [intOf]; omega
                    · have HC := Lib.hid (spec_trade n _ zs c (some ⟨wr.heap.size, 0, none⟩) [(a : Int), (b : Int), (cc : Int), (d : Int)] 4 _ (HCC.out _ HBn.out) HRD.out (by simp) HK.out true (Lib.hid (by rw [HT.out, htr])))
                      have HF := Lib.hid (find_hit h16 hal hbl hcl hdl htr hjd.out)
                      clear htr hjd HT hca hcb
                      go_wp2_with fail
                      refine HC.out.mono ?_
                      rintro e w' ⟨rfl, m, rfl⟩
                      have HFIN := Lib.hid (show intfns.Made (findT n zs) w (.returned (.slice (some ⟨wr.heap.size, 0, none⟩) 4 4)) ((wr.alloc (.cells #[.int .i64 a, .int .i64 b, .int .i64 cc, .int .i64 d] 3)).drewN m) from ⟨_, rfl, by rw [HF.out]; exact (OwnI.of (lo := wr.heap.size) (w := (wr.alloc (.cells #[.int .i64 a, .int .i64 b, .int .i64 cc, .int .i64 d] 3)).drewN m) HOW.out).mono hsz (Nat.le_refl _), ints.below_drewN HBn.out _⟩)
                      go_wp2_with fail
                      go_ret
                      exact HFIN.out
                  · obtain rfl : d = zs.length := by omega
                    have HJ : Hid (∀ j, j < code a b (cc + 1) 0 → okC n zs j = false) := adv hjd.out (fun j h1 h2 h3 => by have := (okC_in h3).1.2; unfold code at h1 h2; omega)
                    clear hjd hca hcb
                    go_wp2_with fail
                    go_roundw
                    case rel => exact ⟨cc + 1, by omega, by go_num, HJ, HBd.out⟩
                    case measure => simp [intOf]; omega
              · obtain rfl : cc = zs.length := by omega
                have HJ : Hid (∀ j, j < code a (b + 1) 0 0 → okC n zs j = false) := adv hjc.out (fun j h1 h2 h3 => by have := (okC_in h3).1.2; unfold code at h1 h2; omega)
                clear hjc
                go_wp2_with fail
                go_roundw
                case rel => exact ⟨b + 1, by omega, by omega, by go_num, HJ, HBc.out⟩
                case measure => simp [intOf]; omega
          · have HJ : Hid (∀ j, j < code a (b + 1) 0 0 → okC n zs j = false) := adv hjb.out (fun j h1 h2 h3 => by
              have h5 := (okC_in h3).1
              have h6 := (tr_in (okC_in h3).2).2.1.1
              have e1 : j / 4096 = a := by unfold code at h1 h2; omega
              have e2 : j / 256 % 16 = b := by unfold code at h1 h2; omega
              rw [e1, e2] at h6
              omega)
            clear hjb
            by_cases h1a : zs.getD a 0 = 1
            · have HE := Lib.hid (show (zs.getD b 0 == 1) = false by rw [beq_eq_false_iff_ne]; exact fun e => h11 ⟨h1a, e⟩)
              have HE2 := Lib.hid h1a
              clear h11 h1a
              clear hca hcb ba bb
              go_wp2_with fail
              go_loopw [7] (fun i wr3 => i = .int .i64 0 ∧ Below w.heap.size w wr3) (fun i _ => 0)
              case atStart => exact ⟨rfl, HBb.out⟩
              case round =>
                obtain ⟨rfl, hbel⟩ := hrel
                have HBc := Lib.hid hbel
                clear hbel
                obtain ⟨bz1, oz1, e1, hbz1, hca⟩ := (HCC.out _ HBc.out).at hal
                cases e1
                obtain ⟨bz2, oz2, e2, hbz2, hcb⟩ := (HCC.out _ HBc.out).at hbl
                cases e2
                rw [HE2.out] at hca
                have g1 := HE.out
                generalize zs.getD b 0 = z at *
                go_wp2_with fail
                go_roundw
                case rel => exact ⟨b + 1, by omega, by omega, by go_num, HJ, HBc.out⟩
                case measure => simp [intOf]; omega
            · have HE := Lib.hid (show (zs.getD a 0 == 1) = false by rw [beq_eq_false_iff_ne]; exact h1a)
              clear h11 h1a
              clear hca hcb ba bb
              go_wp2_with fail
              go_loopw [7] (fun i wr3 => i = .int .i64 0 ∧ Below w.heap.size w wr3) (fun i _ => 0)
              case atStart => exact ⟨rfl, HBb.out⟩
              case round =>
                obtain ⟨rfl, hbel⟩ := hrel
                have HBc := Lib.hid hbel
                clear hbel
                obtain ⟨bz1, oz1, e1, hbz1, hca⟩ := (HCC.out _ HBc.out).at hal
                cases e1
                obtain ⟨bz2, oz2, e2, hbz2, hcb⟩ := (HCC.out _ HBc.out).at hbl
                cases e2
                have g1 := HE.out
                clear hcb
                generalize zs.getD a 0 = z at *
                go_wp2_with fail
                go_roundw
                case rel => exact ⟨b + 1, by omega, by omega, by go_num, HJ, HBc.out⟩
                case measure => simp [intOf]; omega
        · obtain rfl : b = zs.length := by omega
          have HJ : Hid (∀ j, j < code (a + 1) 0 0 0 → okC n zs j = false) := adv hjb.out (fun j h1 h2 h3 => by have := (okC_in h3).1; unfold code at h1 h2; omega)
          clear hjb
          go_wp2_with fail
          go_roundw
          case rel => exact ⟨a + 1, by omega, by go_num, HJ, HBb.out⟩
          case measure => simp [intOf]; omega
    · obtain rfl : a = zs.length := by omega
      have HF := Lib.hid (find_none (n := n) (zs := zs) (adv hja.out (fun j h1 h2 h3 => by have := (okC_in h3).1; unfold code at h1; omega)))
      have HFIN := Lib.hid (show intfns.Made (findT n zs) w (.returned (.slice (some ⟨wr.heap.size, 0, none⟩) 0 0)) (wr.alloc (.cells #[] 3)) from ⟨_, rfl, by rw [HF.out]; exact (own_empty wr).mono HBa.out.size (by simp), HBa.out.alloc HBa.out.size _⟩)
      clear hja
      go_wp2_with fail
      go_ret
      exact HFIN.out
end Go.Proofs.Ytchlkcmgonbcjaa.finds
