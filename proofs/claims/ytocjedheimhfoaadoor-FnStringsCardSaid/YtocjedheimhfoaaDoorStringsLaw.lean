/- The walk of the law FnStrings: it returns true. -/
import Derived.Test.YtocjedheimhfoaaDoorDrawStr
import Derived.Test.YtocjedheimhfoaaDoorParseLaw2
import Derived.Test.YtocjedheimhfoaaDoorVerify
import Derived.Test.YtocjedheimhfoaaDoorPlainDetect
import Derived.StillTailTactics
import Derived.Laws.IdiomStrings
namespace Go.Proofs.YtocjedheimhfoaaDoor.strings
open Go.RowKit num format ints draw drawstr pcut seals verify
set_option linter.unusedVariables false

theorem vBig_no (a : Option Addr) (n c : Nat) (w : World) (hn : n ≤ 65536) :
    Calls Tryd.prog 8 #[.slice a n c] w fun e w' => e = .returned (.bool false) ∧ w = w' := by
  have h : decide ((65536 : Int) < n) = false := by simp; omega
  go_enter Tryd.func8, Tryd.ntmps8
  go_wp2
  go_ret
  exact ⟨rfl, rfl⟩

theorem vBig_yes (a : Option Addr) (n c : Nat) (w : World) (hn : 65536 < n) (hm : n ≤ 9223372036854775807) :
    Calls Tryd.prog 8 #[.slice a n c] w fun e w' => e = .returned (.bool true) ∧ w = w' := by
  have h : decide ((65536 : Int) < n) = true := by simp; omega
  go_enter Tryd.func8, Tryd.ntmps8
  go_wp2
  go_ret
  exact ⟨rfl, rfl⟩

/-- The byte at a place of a code, or what stands for it behind the end. -/
def vAtF (zs : List Int) (i : Nat) : Int := if i < zs.length then zs.getD i 0 else ((i : Int) * 7 + zs.length) % 256

theorem vAtF_bd {w : World} {a : Option Addr} {zs : List Int} (h : drawstr.Code w a zs) (i : Nat) : 0 ≤ vAtF zs i ∧ vAtF zs i ≤ 255 := by
  unfold vAtF
  split
  · rename_i hi; exact h.bytes i hi
  · omega

theorem vAt_any (a : Option Addr) (zs : List Int) (c i : Nat) (w : World) (h : drawstr.Code w a zs) (hi : i ≤ 1000) :
    Calls Tryd.prog 19 #[.slice a zs.length c, .int .i64 i] w fun e w' => e = .returned (.int .i64 (vAtF zs i)) ∧ w' = w := by
  have hl := h.len
  by_cases hlt : i < zs.length
  · obtain ⟨b, off, rfl, hb, hc⟩ := h.reads.at hlt
    have hv : vAtF zs i = zs.getD i 0 := by unfold vAtF; rw [if_pos hlt]
    obtain ⟨hx0, hx1⟩ := h.bytes i hlt
    rw [hv]
    generalize zs.getD i 0 = x at *
    clear hv
    go_enter Tryd.func19, Tryd.ntmps19
    go_wp2
    go_ret
    exact ⟨rfl, rfl⟩
  · have hv : vAtF zs i = ((i : Int) * 7 + zs.length) % 256 := by unfold vAtF; rw [if_neg hlt]
    have HV := Lib.hid hv
    clear hv
    go_enter Tryd.func19, Tryd.ntmps19
    go_wp2
    go_ret
    exact ⟨by rw [HV.out]; rfl, rfl⟩

/-- FormatInt, of the project and of the model, at one number; ParseInt at its text. -/
theorem format_both (z : Int) (h0 : -1000000 ≤ z) (h1 : z ≤ 1000000) : ∃ (S : ByteArray) (ok : Bool),
    Hid (∀ w, Hid (Tab w) → Calls Tryd.prog 10 #[.int .i64 z] w fun e w' => e = .returned (.tuple #[.string S, .bool ok]) ∧ Below w.heap.size w w') ∧
    Hid (∀ w, Calls Tryd.prog 11 #[.int .i64 z] w fun e w' => e = .returned (.tuple #[.string S, .bool ok]) ∧ Below w.heap.size w w') ∧
    ((ok = true ∧ Hid (∀ w, Hid (Tab w) → Calls Tryd.prog 13 #[.string S] w fun e w' => e = .returned (.tuple #[.int .i64 z, .bool true]) ∧ Below w.heap.size w w')) ∨
     (ok = false ∧ Hid (∀ w, Hid (Tab w) → Calls Tryd.prog 13 #[.string S] w fun e w' => e = .returned (.tuple #[.int .i64 0, .bool false]) ∧ Below w.heap.size w w'))) := by
  by_cases h : z < -999999 ∨ 999999 < z
  · refine ⟨ByteArray.empty, false, Lib.hid fun w _ => (implFormat_no z w h).mono fun _ _ ⟨he, hw⟩ => ⟨he, below_of_eq hw⟩, Lib.hid fun w => (specFormat_no z w h).mono fun _ _ ⟨he, hw⟩ => ⟨he, below_of_eq hw⟩, .inr ⟨rfl, Lib.hid fun w ht => ?_⟩⟩
    refine parse.impl_no ByteArray.empty w ht (by show 0 ≤ 1048576; omega) (Lib.hid (pparse.body_len (pparse.body_pos ByteArray.empty (.inl (Nat.zero_le _))) (.inl (Nat.zero_lt_one))))
  · have hz0 : -999999 ≤ z := by omega
    have hz1 : z ≤ 999999 := by omega
    have hs : (txt (Lib.itoa z)).size ≤ 1048576 := by
      rw [size_txt]
      have := Lib.itoa_length_le z (by omega) (by omega)
      omega
    exact ⟨txt (Lib.itoa z), true, Lib.hid fun w ht => implFormat_yes z w hz0 hz1 ht, Lib.hid fun w => (specFormat_yes z w hz0 hz1).mono fun _ _ ⟨he, k, hw⟩ => ⟨he, by subst hw; exact num.below_drewN (Below.refl _ _) k⟩,
      .inl ⟨rfl, Lib.hid fun w ht => parse.impl_yes _ z w ht hs (parse.P_of_txt hz0 hz1 rfl)⟩⟩

theorem parse_both (s : ByteArray) (hs : s.size ≤ 4000) : ∃ (m : Int) (ok : Bool),
    Hid (∀ w, Hid (Tab w) → Calls Tryd.prog 13 #[.string s] w fun e w' => e = .returned (.tuple #[.int .i64 m, .bool ok]) ∧ Below w.heap.size w w') ∧
    Hid (∀ w, Calls Tryd.prog 14 #[.string s] w fun e w' => e = .returned (.tuple #[.int .i64 m, .bool ok]) ∧ Below w.heap.size w w') := by
  by_cases hf : ∃ n, pparse.P s n
  · obtain ⟨n, hn⟩ := hf
    exact ⟨n, true, Lib.hid fun w ht => parse.impl_yes s n w ht (by omega) hn, Lib.hid fun w => (parse.spec_yes s n w (by omega) hn).mono fun _ _ ⟨he, k, hw⟩ => ⟨he, by subst hw; exact num.below_drewN (Below.refl _ _) k⟩⟩
  · have hf' : ∀ n, ¬ pparse.P s n := fun n hn => hf ⟨n, hn⟩
    exact ⟨0, false, Lib.hid fun w ht => parse.impl_no s w ht (by omega) (Lib.hid hf'), Lib.hid fun w => (parse.spec_no s w (by omega) (Lib.hid hf')).mono fun _ _ ⟨he, k, hw⟩ => ⟨he, by subst hw; exact num.below_drewN (Below.refl _ _) k⟩⟩

theorem append_both (s : ByteArray) (hs : s.size ≤ 4000) : ∃ (y : ByteArray) (ok : Bool),
    Hid (∀ w, Hid (Tab w) → Calls Tryd.prog 16 #[.string s] w fun e w' => e = .returned (.tuple #[.string y, .bool ok]) ∧ Below w.heap.size w w') ∧
    Hid (∀ w, Calls Tryd.prog 17 #[.string s] w fun e w' => e = .returned (.tuple #[.string y, .bool ok]) ∧ Below w.heap.size w w') ∧
    ((ok = true ∧ Hid (y = sealed s ∧ pjoin.has s.data.toList 35 = false ∧ (sealed s).size ≤ 4000)) ∨ (ok = false ∧ y = ByteArray.empty)) := by
  by_cases hf : fits s = true
  · have hf' : s.size ≤ 4000 ∧ pjoin.has s.data.toList 35 = false ∧ (sealed s).size ≤ 4000 := by
      simp [fits] at hf
      exact ⟨hf.1.1, hf.1.2, hf.2⟩
    exact ⟨sealed s, true, Lib.hid fun w ht => seals.impl_yes s w ht hf'.1 hf'.2.1 hf'.2.2, Lib.hid fun w => (seals.spec_yes s w hf'.1 hf'.2.1 hf'.2.2).mono fun _ _ ⟨he, k, hw⟩ => ⟨he, by subst hw; exact num.below_drewN (Below.refl _ _) k⟩, .inl ⟨rfl, Lib.hid ⟨rfl, hf'.2⟩⟩⟩
  · have hf' : fits s = false := by simpa using hf
    exact ⟨ByteArray.empty, false, Lib.hid fun w ht => seals.impl_no s w ht (by omega) hf', Lib.hid fun w => (seals.spec_no s w (by omega) hf').mono fun _ _ ⟨he, k, hw⟩ => ⟨he, by subst hw; exact num.below_drewN (Below.refl _ _) k⟩, .inr ⟨rfl, rfl⟩⟩

theorem sealed_list (s : ByteArray) : (sealed s).data.toList = detect.sealL s.data.toList := by
  unfold sealed detect.sealL
  simp [txt]

theorem no_mark_of {s : ByteArray} (h : pjoin.has s.data.toList 35 = false) : (35 : UInt8) ∉ s.data.toList := by
  simpa [pjoin.has] using h

theorem ext_list {a b : ByteArray} (h : a.data.toList = b.data.toList) : a = b := ByteArray.ext (Array.ext' h)

theorem good_sealed {s : ByteArray} (h : pjoin.has s.data.toList 35 = false) (hz : (sealed s).size ≤ 4000) : good (sealed s) = true ∧ head (sealed s) 35 = s := by
  have e : sealed s = detect.txt (detect.sealL s.data.toList) := ext_list (by rw [sealed_list]; simp [detect.txt])
  have hh : head (sealed s) 35 = s := by
    rw [e, detect.open_sealL _ (no_mark_of h)]
    exact ext_list (by simp [detect.txt])
  refine ⟨?_, hh⟩
  simp [good, hh, hz]

theorem bad_changed {s : ByteArray} (h : pjoin.has s.data.toList 35 = false) (k : Nat) (hk : k < (sealed s).data.toList.length) (c : UInt8) (hc : c ≠ (sealed s).data.toList[k]) :
    good ⟨((sealed s).data.toList.set k c).toArray⟩ = false := by
  have hl := sealed_list s
  have hne : sealed (head ⟨((sealed s).data.toList.set k c).toArray⟩ 35) ≠ ⟨((sealed s).data.toList.set k c).toArray⟩ := by
    intro e
    have e2 := congrArg (fun b : ByteArray => b.data.toList) e
    simp only [sealed_list] at e2
    refine detect.changed s.data.toList (no_mark_of h) k (by rw [← hl]; exact hk) c ?_ (by simpa [detect.txt] using e2)
    intro e3
    apply hc
    rw [e3]
    congr 1
    exact hl.symm
  simp [good, hne]

theorem law_big (a : Option Addr) (n c : Nat) (w : World) (hn : 65536 < n) (hm : n ≤ 9223372036854775807) :
    Calls Tryd.prog 3 #[.slice a n c] w fun e w' => e = .returned (.bool true) ∧ Below w.heap.size w w' := by
  go_enter Tryd.func3, Tryd.ntmps3
  go_wp2_with (go_at_call 8; refine (vBig_yes _ _ _ _ hn hm).mono ?_; rintro e w' ⟨rfl, rfl⟩)
  go_ret
  exact ⟨rfl, Below.refl _ _⟩

theorem bytes_of (y : ByteArray) (w : World) : ∃ (cap : Nat) (w' : World), (convert 9 22 (.string y)).run Tryd.prog w = .ok (.slice (some ⟨w.heap.size, 0, none⟩) y.size cap) w' ∧
    (∀ j (hj : j < y.data.toList.length), w'.cell? ⟨w.heap.size, j, none⟩ = some (.int .u8 (y.data.toList[j].toNat : Int))) ∧ (∀ j, j < y.size → w'.frozen? ⟨w.heap.size, j, none⟩ = false) ∧ Below w.heap.size w w' := by
  refine ⟨_, _, run_bytes_of_string (P := Tryd.prog) w 9 22 5 y Tryd.underlying9 Tryd.underlying22 Tryd.underlying5, fun j hj => ?_, fun j hj => ?_, ?_⟩
  · rw [show w.heap.size = w.drew.heap.size from rfl, World.cell?_alloc_mark, bytesRow_at y _ j (by simpa using hj)]
    simp
  · rw [show w.heap.size = w.drew.heap.size from rfl, World.frozen?_alloc_mark]
    have : ¬ (bytesRow y (grownCap w y.size 0 5)).size ≤ j := by
      simp [bytesRow]
      have e : y.data.size = y.size := rfl
      omega
    simp [this]
  · exact ((Below.refl _ _).drew).alloc (Nat.le_refl _) _

theorem xor_byte (q b : Int) (hq0 : 0 ≤ q) (hq1 : q ≤ 255) (hb0 : 1 ≤ b) (hb1 : b ≤ 255) : ∃ c : UInt8, bits .xor .u8 q b = (c.toNat : Int) ∧ (c.toNat : Int) ≠ q := by
  have hlt : q.toNat ^^^ b.toNat < 256 := Nat.xor_lt_two_pow (n := 8) (by omega) (by omega)
  refine ⟨UInt8.ofNat (q.toNat ^^^ b.toNat), ?_, ?_⟩
  · rw [u8_xor q b hq0 (by omega) (by omega) (by omega), UInt8.toNat_ofNat', Nat.mod_eq_of_lt hlt]
  · rw [UInt8.toNat_ofNat', Nat.mod_eq_of_lt hlt]
    intro e
    have e2 : q.toNat ^^^ b.toNat = q.toNat := by omega
    have e3 : q.toNat ^^^ (q.toNat ^^^ b.toNat) = 0 := by rw [e2, Nat.xor_self]
    rw [← Nat.xor_assoc, Nat.xor_self, Nat.zero_xor] at e3
    omega

theorem back_of {wc : World} (g K cap : Nat) (y : ByteArray) (hc : ∀ j (hj : j < y.data.toList.length), wc.cell? ⟨g, j, none⟩ = some (.int .u8 (y.data.toList[j].toNat : Int))) (hK : K < y.data.toList.length) (v : Int) (c : UInt8) (hv : v = (c.toNat : Int)) :
    (convert 22 9 (.slice (some ⟨g, 0, none⟩) y.size cap)).run Tryd.prog ((wc.setCell ⟨g, K, none⟩ (.int .u8 v)).drew) = .ok (.string ⟨(y.data.toList.set K c).toArray⟩) ((wc.setCell ⟨g, K, none⟩ (.int .u8 v)).drew) := by
  subst hv
  have := run_convert_bytes_back (P := Tryd.prog) ((wc.setCell ⟨g, K, none⟩ (.int .u8 c.toNat)).drew) 22 9 5 ⟨g, 0, none⟩ cap (y.data.toList.set K c) Tryd.underlying22 Tryd.underlying5 Tryd.underlying9 (fun j hj => by
    have hjl : j < y.data.toList.length := by rw [List.length_set] at hj; exact hj
    rw [Go.WideShapes.add_plain, Nat.zero_add]
    show (wc.setCell ⟨g, K, none⟩ (.int .u8 c.toNat)).cell? ⟨g, j, none⟩ = _
    by_cases e : j = K
    · subst e
      rw [World.cell?_setCell_same' _ _ _ (by rw [hc j hjl]; rfl), List.getElem_set_self]
    · rw [World.cell?_setCell_other (h := by intro h; cases h; exact e rfl), hc j hjl, List.getElem_set_ne (fun h => e h.symm)])
  rw [List.length_set] at this
  have e : y.data.toList.length = y.size := by simp
  rw [e] at this
  exact this

set_option maxHeartbeats 4000000 in
set_option maxRecDepth 100000 in
theorem law_small (a : Option Addr) (zs : List Int) (c : Nat) (w : World) (h : drawstr.Code w a zs) (hn : zs.length ≤ 65536) (ht : Hid (Tab w)) :
    Calls Tryd.prog 3 #[.slice a zs.length c] w fun e w' => e = .returned (.bool true) ∧ Below w.heap.size w w' := by
  go_enter Tryd.func3, Tryd.ntmps3
  go_wp2_with (go_at_call 8; refine (vBig_no _ _ _ _ hn).mono ?_; rintro e w' ⟨rfl, rfl⟩; refine Hid.out ?_)
  refine Lib.hid ?_
  go_wp2_with fail
  refine (formatInt_any a zs c w h).mono ?_
  rintro e w1 ⟨z, rfl, hz0, hz1, hb⟩
  have HB1 := Lib.hid hb
  have h1 := h.below hb
  have t1 := Tab.below ht hb
  clear hb
  obtain ⟨S, ok, HF1, HF2, HF3⟩ := format_both z hz0 hz1
  have HF3' := Lib.hid HF3
  clear HF3
  go_wp2_with fail
  refine (HF1.out w1 t1).mono ?_
  rintro e w2 ⟨rfl, hb⟩
  have HB2 := Lib.hid (HB1.out.trans (hb.mono HB1.out.size))
  have h2 := h1.below hb
  have t2 := Tab.below t1 hb
  clear hb
  go_wp2_with fail
  refine (HF2.out w2).mono ?_
  rintro e w3 ⟨rfl, hb⟩
  have HB3 := Lib.hid (HB2.out.trans (hb.mono HB2.out.size))
  have h3 := h2.below hb
  have t3 := Tab.below t2 hb
  clear hb
  go_wp2_with fail
  refine (parseInt_any a zs c w3 h3).mono ?_
  rintro e w4 ⟨t, rfl, hts, hb⟩
  have HB4 := Lib.hid (HB3.out.trans (hb.mono HB3.out.size))
  have h4 := h3.below hb
  have t4 := Tab.below t3 hb
  clear hb
  obtain ⟨m, fine, HP1, HP2⟩ := parse_both t hts
  go_wp2_with fail
  refine (HP1.out w4 t4).mono ?_
  rintro e w5 ⟨rfl, hb⟩
  have HB5 := Lib.hid (HB4.out.trans (hb.mono HB4.out.size))
  have h5 := h4.below hb
  have t5 := Tab.below t4 hb
  clear hb
  go_wp2_with fail
  refine (HP2.out w5).mono ?_
  rintro e w6 ⟨rfl, hb⟩
  have HB6 := Lib.hid (HB5.out.trans (hb.mono HB5.out.size))
  have h6 := h5.below hb
  have t6 := Tab.below t5 hb
  clear hb
  go_wp2_with fail
  refine (appendChecksum_any a zs c w6 h6).mono ?_
  rintro e w7 ⟨x, rfl, hxs, hb⟩
  have HB7 := Lib.hid (HB6.out.trans (hb.mono HB6.out.size))
  have h7 := h6.below hb
  have t7 := Tab.below t6 hb
  clear hb
  obtain ⟨y, sd, HA1, HA2, HA3⟩ := append_both x hxs
  have HA3' := Lib.hid HA3
  clear HA3
  go_wp2_with fail
  refine (HA1.out w7 t7).mono ?_
  rintro e w8 ⟨rfl, hb⟩
  have HB8 := Lib.hid (HB7.out.trans (hb.mono HB7.out.size))
  have h8 := h7.below hb
  have t8 := Tab.below t7 hb
  clear hb
  go_wp2_with fail
  refine (HA2.out w8).mono ?_
  rintro e w9 ⟨rfl, hb⟩
  have HB9 := Lib.hid (HB8.out.trans (hb.mono HB8.out.size))
  have h9 := h8.below hb
  have t9 := Tab.below t8 hb
  clear hb
  go_wp2_with fail
  rcases HF3'.out with ⟨rfl, HF4⟩ | ⟨rfl, HF4⟩
  all_goals
    refine (HF4.out w9 t9).mono ?_
    rintro e wa ⟨rfl, hb⟩
    have HBa := Lib.hid (HB9.out.trans (hb.mono HB9.out.size))
    have ha := h9.below hb
    have ta := Tab.below t9 hb
    clear hb
    rcases HA3'.out with ⟨rfl, HY⟩ | ⟨rfl, rfl⟩
    · obtain ⟨hy, hx35, hsz⟩ := HY.out
      obtain ⟨hg1, hg2⟩ := good_sealed hx35 hsz
      have HV := Lib.hid (show ∀ w, Hid (Tab w) → Calls Tryd.prog 18 #[.string y] w fun e w' => e = .returned (.tuple #[.string x, .bool true]) ∧ Below w.heap.size w w' from fun w ht => by
        have := verify.impl_yes (sealed x) w ht hg1
        rw [hg2] at this
        rw [hy]
        exact this)
      have hys : y.size ≤ 4000 := by rw [hy]; exact hsz
      have hyp : 1 ≤ y.size := by
        rw [hy]
        obtain ⟨_, _, _, _, e⟩ := sum_text x
        rw [e]; omega
      have HB35 := Lib.hid (show ∀ (k : Nat) (hk : k < y.data.toList.length) (c : UInt8), c ≠ y.data.toList[k] → good ⟨(y.data.toList.set k c).toArray⟩ = false from fun k hk c hc => by
        subst hy
        exact bad_changed hx35 k hk c hc)
      clear hy hx35 hsz hg1 hg2
      go_wp2_with fail
      refine (HV.out wa ta).mono ?_
      rintro e wb ⟨rfl, hb⟩
      have HBb := Lib.hid (HBa.out.trans (hb.mono HBa.out.size))
      have hb' := ha.below hb
      have tb := Tab.below ta hb
      clear hb
      obtain ⟨cap, wc, hrun, hcells, hfree, hbel⟩ := bytes_of y wb
      have HBc := Lib.hid (HBb.out.trans (hbel.mono HBb.out.size))
      have hc' := hb'.below hbel
      have tc := Tab.below tb hbel
      have HC := Lib.hid hcells
      have HFr := Lib.hid hfree
      have HBbc := Lib.hid hbel
      clear hcells hfree hbel
      have hbd9 := vAtF_bd hc' 9
      have hbd10 := vAtF_bd hc' 10
      obtain ⟨v9, hv9⟩ : ∃ v, vAtF zs 9 = v := ⟨_, rfl⟩
      obtain ⟨v10, hv10⟩ : ∃ v, vAtF zs 10 = v := ⟨_, rfl⟩
      have V9 := Lib.hid (show ∀ w, drawstr.Code w a zs → Calls Tryd.prog 19 #[.slice a zs.length c, .int .i64 9] w fun e w' => e = .returned (.int .i64 v9) ∧ w = w' from fun w hw => by
        rw [← hv9]; exact (vAt_any a zs c 9 w hw (by omega)).mono fun _ _ ⟨h1, h2⟩ => ⟨h1, h2.symm⟩)
      have V10 := Lib.hid (show ∀ w, drawstr.Code w a zs → Calls Tryd.prog 19 #[.slice a zs.length c, .int .i64 10] w fun e w' => e = .returned (.int .i64 v10) ∧ w' = w from fun w hw => by
        rw [← hv10]; exact vAt_any a zs c 10 w hw (by omega))
      rw [hv9] at hbd9
      rw [hv10] at hbd10
      clear hv9 hv10
      obtain ⟨hv9a, hv9b⟩ := hbd9
      obtain ⟨hv10a, hv10b⟩ := hbd10
      obtain ⟨K, hK⟩ : ∃ K : Nat, v9 % (y.size : Int) = (K : Int) := ⟨(v9 % (y.size : Int)).toNat, (Int.toNat_of_nonneg (Int.emod_nonneg _ (by omega))).symm⟩
      have hKs : K < y.size := by have := Int.emod_lt_of_pos v9 (show (0 : Int) < y.size by omega); omega
      go_wp2_with (go_at_call 19; refine (V9.out _ hc').mono ?_; rintro e w' ⟨rfl, rfl⟩)
      have hKl : K < y.data.toList.length := by simpa using hKs
      have hcell := HC.out K hKl
      have hfr := HFr.out K hKs
      obtain ⟨q, hq⟩ : ∃ q : Int, (y.data.toList[K].toNat : Int) = q := ⟨_, rfl⟩
      have hq0 : 0 ≤ q := by omega
      have hq1 : q ≤ 255 := by have := y.data.toList[K].toNat_lt; omega
      rw [hq] at hcell
      have HQ := Lib.hid hq
      clear hq
      have hcd : drawstr.Code wc.drew a zs := hc'.below ((Below.refl _ _).drew)
      have hcelld : wc.drew.cell? ⟨wb.heap.size, K, none⟩ = some (.int .u8 q) := hcell
      have hfrd : wc.drew.frozen? ⟨wb.heap.size, K, none⟩ = false := hfr
      have td : Hid (Tab wc.drew) := Tab.below tc ((Below.refl _ _).drew)
      have HBd := Lib.hid (show Below w.heap.size w wc.drew from HBc.out.drew)
      have HCd := Lib.hid (show ∀ j (hj : j < y.data.toList.length), wc.drew.cell? ⟨wb.heap.size, j, none⟩ = some (.int .u8 (y.data.toList[j].toNat : Int)) from HC.out)
      obtain ⟨cu, hcu, hne⟩ := xor_byte q (1 + v10 % 255) hq0 hq1 (by omega) (by omega)
      obtain ⟨y', hy', hys', hconv⟩ : ∃ y' : ByteArray, Hid (good y' = false) ∧ y'.size ≤ 4000 ∧ (convert 22 9 (.slice (some ⟨wb.heap.size, 0, none⟩) y.size cap)).run Tryd.prog ((wc.setCell ⟨wb.heap.size, K, none⟩ (.int .u8 cu.toNat)).drew) = .ok (.string y') ((wc.setCell ⟨wb.heap.size, K, none⟩ (.int .u8 cu.toNat)).drew) := by
        refine ⟨_, Lib.hid (HB35.out K hKl cu (fun e => hne (by rw [e]; exact HQ.out))), ?_, back_of wb.heap.size K cap y HC.out hKl _ cu rfl⟩
        show (y.data.toList.set K cu).toArray.size ≤ 4000
        simpa using hys
      have te : Hid (Tab ((wc.setCell ⟨wb.heap.size, K, none⟩ (.int .u8 cu.toNat)).drew)) := Lib.hid (by
        have hc0 := Lib.TabIs.cell tb.out gTab 0 (by rw [Lib.pow10Tab_length]; omega)
        exact var?_below (((HBbc.out.setCell (p := ⟨wb.heap.size, K, none⟩) (Nat.le_refl _) _)).drew) gTab (World.block_lt_of_cell? wb _ hc0) tb.out)
      have HBe := Lib.hid (show Below w.heap.size w ((wc.setCell ⟨wb.heap.size, K, none⟩ (.int .u8 cu.toNat)).drew) from (HBc.out.setCell (p := ⟨wb.heap.size, K, none⟩) HBb.out.size _).drew)
      clear hne
      go_still_tail 13, (by kernel_rfl)
      still_call (V10.out _ hcd)
      repeat still_step
      refine wpStill_nil ?_
      clear hcelld hfrd
      go_wp2_with fail
      refine (verify.impl_no y' _ te (by omega) hy'.out).mono ?_
      rintro e wf ⟨rfl, hbf⟩
      have HBf := Lib.hid (HBe.out.trans (hbf.mono HBe.out.size))
      clear hbf
      go_wp2_with fail
      go_ret
      exact ⟨rfl, HBf.out⟩
    · go_wp2_with fail
      go_ret
      exact ⟨rfl, HBa.out⟩

theorem law (a : Option Addr) (zs : List Int) (c : Nat) (w : World) (hr : Reads .u8 w a zs) (hz : ∀ i, i < zs.length → 0 ≤ zs.getD i 0 ∧ zs.getD i 0 ≤ 255) (hl : zs.length ≤ maxLen) (ht : Hid (Tab w)) :
    Calls Tryd.prog 3 #[.slice a zs.length c] w fun e w' => e = .returned (.bool true) ∧ Below w.heap.size w w' := by
  unfold maxLen at hl
  by_cases h : 65536 < zs.length
  · exact law_big a _ c w h hl
  · exact law_small a zs c w ⟨hz, hr, by omega⟩ (by omega) ht
end Go.Proofs.YtocjedheimhfoaaDoor.strings
