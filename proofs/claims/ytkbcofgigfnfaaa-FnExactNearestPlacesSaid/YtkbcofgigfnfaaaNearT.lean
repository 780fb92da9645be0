/- The nearest places and the near label. -/
import Derived.Test.YtkbcofgigfnfaaaNlabS
import Derived.Test.YtkbcofgigfnfaaaNlabI
import Derived.Test.YtkbcofgigfnfaaaLeftS
import Derived.Test.YtkbcofgigfnfaaaOwn1
import Derived.Deep.RegionHeld3
import Derived.Deep.DrawnRows
namespace Go.Proofs.Ytkbcofgigfnfaaa.neart
open Go.RowKit own pp nums nearp squares dots mk nearq nlabp nears nlabs neari nlabi pwh fitsp samplesv samplest lefts
set_option linter.unusedVariables false
set_option linter.unusedSimpArgs false

theorem reads_take {w : World} {a : Option Addr} {zs : List Int} (h : ints.Reads .i64 w a zs) (i : Nat) : ints.Reads .i64 w a (zs.take i) := by
  rcases h with rfl | ⟨b, off, rfl, hb, hc⟩
  · exact .inl (by simp)
  · refine .inr ⟨b, off, rfl, hb, fun j hj => ?_⟩
    rw [List.length_take] at hj
    rw [hc j (by omega)]
    simp [List.getD_eq_getElem?_getD, List.getElem?_take, show j < i by omega]
/-- All places. -/
def ids (n : Nat) : List Int := mk.mk (fun i => (i : Int)) n
theorem ids_length (n : Nat) : (ids n).length = n := mk_length _ _
theorem ids_nbr {rows : List (List Int)} {zs xs : List Int} (hs : sampleB rows zs = true) (hf : fitsB rows xs = true) : Nbr rows (ids rows.length) xs := by
  have h16 := ((sampleB_iff _ _).1 hs).1
  refine ⟨h16, by rw [ids_length]; exact h16, fun j hj => ?_⟩
  rw [ids_length] at hj
  have e : (ids rows.length).getD j 0 = (j : Int) := mk_getD _ _ _ hj
  rw [e, Int.toNat_natCast]
  have h1 := sample_at hs j hj
  have h2 := (fitsB_iff _ _).1 hf
  refine ⟨by omega, by omega, (pairB_iff _ _).2 ⟨h1.1, h2.1, ?_⟩⟩
  rw [h1.2.1]
  rcases h2.2 with h3 | h3
  · omega
  · exact h3.symm
set_option maxRecDepth 100000 in
set_option maxHeartbeats 1600000 in
theorem impl_has (a : Option Addr) (rows : List (List Int)) (c : Nat) (a' : Option Addr) (zs : List Int) (c' : Nat) (x : Option Addr) (xs : List Int) (q : Nat) (k : Int) (w : World) (hr : grid.Reads w a rows) (hz : ints.Reads .i64 w a' zs) (hx : ints.Reads .i64 w x xs) (hn : rows.length ≤ 1048576) (hk : zs.length ≤ 1048576) (hm : ∀ r ∈ rows, r.length ≤ 1048576) (hxn : xs.length ≤ 1048576) (ok : Bool) (h : Hid (npB rows zs xs k = ok)) :
    Calls Try.prog 63 #[.agg #[.slice a rows.length c, .slice a' zs.length c'], .slice x xs.length q, .int .i64 k] w (RetB ok w) := by
  have Hhr := Lib.hid hr
  have Hhz := Lib.hid hz
  have Hhx := Lib.hid hx
  have Hhm := Lib.hid hm
  clear hr hz hx hm
  cases hs : sampleB rows zs
  · have HS := Lib.hid hs
    have e9 : ok = false := by rw [← h.out]; unfold npB; rw [hs]; rfl
    subst e9
    clear h hs
    go_enter Try.func63, Try.ntmps63
    obtain ⟨wb1, hw1⟩ : ∃ wb1 : World, wb1 = w.alloc (.cells #[.slice a rows.length c, .slice a' zs.length c'] 29) := ⟨_, rfl⟩
    have z1 : wb1.heap.size = w.heap.size + 1 := by rw [hw1]; simp
    have x0_0 := (by rw [hw1]; exact cell_new _ _ _ rfl rfl : wb1.cell? ⟨w.heap.size, 0, none⟩ = some (.slice a rows.length c))
    have x0_1 := (by rw [hw1]; exact cell_new _ _ _ rfl rfl : wb1.cell? ⟨w.heap.size, 1, none⟩ = some (.slice a' zs.length c'))
    have HB0 := Lib.hid (show Below w.heap.size w wb1 by rw [hw1]; exact (Below.refl w.heap.size w).alloc (Nat.le_refl _) _)
    have s1 : w.heap.size + 1 ≤ wb1.heap.size := by omega
    have HZ1 := Lib.hid z1
    clear z1
    go_wp2_with fail
    rw [← hw1]
    clear hw1
    refine (impl_sample a rows c a' zs c' wb1 (Hhr.out.below HB0.out) (Hhz.out.below HB0.out) hn hk Hhm.out false HS).mono ?_
    rintro e' w2 ⟨rfl, hb⟩
    replace x0_0 := cell_below hb x0_0 (by omega)
    replace x0_1 := cell_below hb x0_1 (by omega)
    have s2 := hb.size
    have HB2 := Lib.hid (HB0.out.trans (hb.mono HB0.out.size))
    clear hb
    go_wp2_with fail
    go_ret
    exact ⟨rfl, HB2.out⟩
  have HS := Lib.hid hs
  cases hf : fitsB rows xs
  · have HT := Lib.hid hf
    have e9 : ok = false := by rw [← h.out]; unfold npB; rw [hs, hf]; rfl
    subst e9
    clear h hs hf
    go_enter Try.func63, Try.ntmps63
    obtain ⟨wb1, hw1⟩ : ∃ wb1 : World, wb1 = w.alloc (.cells #[.slice a rows.length c, .slice a' zs.length c'] 29) := ⟨_, rfl⟩
    have z1 : wb1.heap.size = w.heap.size + 1 := by rw [hw1]; simp
    have x0_0 := (by rw [hw1]; exact cell_new _ _ _ rfl rfl : wb1.cell? ⟨w.heap.size, 0, none⟩ = some (.slice a rows.length c))
    have x0_1 := (by rw [hw1]; exact cell_new _ _ _ rfl rfl : wb1.cell? ⟨w.heap.size, 1, none⟩ = some (.slice a' zs.length c'))
    have HB0 := Lib.hid (show Below w.heap.size w wb1 by rw [hw1]; exact (Below.refl w.heap.size w).alloc (Nat.le_refl _) _)
    have s1 : w.heap.size + 1 ≤ wb1.heap.size := by omega
    have HZ1 := Lib.hid z1
    clear z1
    go_wp2_with fail
    rw [← hw1]
    clear hw1
    refine (impl_sample a rows c a' zs c' wb1 (Hhr.out.below HB0.out) (Hhz.out.below HB0.out) hn hk Hhm.out true HS).mono ?_
    rintro e' w2 ⟨rfl, hb⟩
    replace x0_0 := cell_below hb x0_0 (by omega)
    replace x0_1 := cell_below hb x0_1 (by omega)
    have s2 := hb.size
    have HB2 := Lib.hid (HB0.out.trans (hb.mono HB0.out.size))
    clear hb
    go_wp2_with fail
    refine (impl_for a rows c a' zs c' x xs q w2 (Hhr.out.below HB2.out) (Hhx.out.below HB2.out) hn hxn Hhm.out false HT).mono ?_
    rintro e' w3 ⟨rfl, hb⟩
    replace x0_0 := cell_below hb x0_0 (by omega)
    replace x0_1 := cell_below hb x0_1 (by omega)
    have s3 := hb.size
    have HB3 := Lib.hid (HB2.out.trans (hb.mono HB2.out.size))
    clear hb
    go_wp2_with fail
    go_ret
    exact ⟨rfl, HB3.out⟩
  have HT := Lib.hid hf
  have hr9 : (decide (1 ≤ k) && decide (k ≤ (rows.length : Int))) = ok := by rw [← h.out]; unfold npB; rw [hs, hf]; rfl
  cases h1 : decide (1 ≤ k)
  · have e9 : ok = false := by rw [← hr9, h1]; rfl
    subst e9
    clear h hs hf hr9
    go_enter Try.func63, Try.ntmps63
    obtain ⟨wb1, hw1⟩ : ∃ wb1 : World, wb1 = w.alloc (.cells #[.slice a rows.length c, .slice a' zs.length c'] 29) := ⟨_, rfl⟩
    have z1 : wb1.heap.size = w.heap.size + 1 := by rw [hw1]; simp
    have x0_0 := (by rw [hw1]; exact cell_new _ _ _ rfl rfl : wb1.cell? ⟨w.heap.size, 0, none⟩ = some (.slice a rows.length c))
    have x0_1 := (by rw [hw1]; exact cell_new _ _ _ rfl rfl : wb1.cell? ⟨w.heap.size, 1, none⟩ = some (.slice a' zs.length c'))
    have HB0 := Lib.hid (show Below w.heap.size w wb1 by rw [hw1]; exact (Below.refl w.heap.size w).alloc (Nat.le_refl _) _)
    have s1 : w.heap.size + 1 ≤ wb1.heap.size := by omega
    have HZ1 := Lib.hid z1
    clear z1
    go_wp2_with fail
    rw [← hw1]
    clear hw1
    refine (impl_sample a rows c a' zs c' wb1 (Hhr.out.below HB0.out) (Hhz.out.below HB0.out) hn hk Hhm.out true HS).mono ?_
    rintro e' w2 ⟨rfl, hb⟩
    replace x0_0 := cell_below hb x0_0 (by omega)
    replace x0_1 := cell_below hb x0_1 (by omega)
    have s2 := hb.size
    have HB2 := Lib.hid (HB0.out.trans (hb.mono HB0.out.size))
    clear hb
    go_wp2_with fail
    refine (impl_for a rows c a' zs c' x xs q w2 (Hhr.out.below HB2.out) (Hhx.out.below HB2.out) hn hxn Hhm.out true HT).mono ?_
    rintro e' w3 ⟨rfl, hb⟩
    replace x0_0 := cell_below hb x0_0 (by omega)
    replace x0_1 := cell_below hb x0_1 (by omega)
    have s3 := hb.size
    have HB3 := Lib.hid (HB2.out.trans (hb.mono HB2.out.size))
    clear hb
    go_wp2_with fail
    go_ret
    exact ⟨rfl, HB3.out⟩
  · have e9 : decide (k ≤ (rows.length : Int)) = ok := by rw [← hr9, h1]; rfl
    clear h hs hf hr9
    go_enter Try.func63, Try.ntmps63
    obtain ⟨wb1, hw1⟩ : ∃ wb1 : World, wb1 = w.alloc (.cells #[.slice a rows.length c, .slice a' zs.length c'] 29) := ⟨_, rfl⟩
    have z1 : wb1.heap.size = w.heap.size + 1 := by rw [hw1]; simp
    have x0_0 := (by rw [hw1]; exact cell_new _ _ _ rfl rfl : wb1.cell? ⟨w.heap.size, 0, none⟩ = some (.slice a rows.length c))
    have x0_1 := (by rw [hw1]; exact cell_new _ _ _ rfl rfl : wb1.cell? ⟨w.heap.size, 1, none⟩ = some (.slice a' zs.length c'))
    have HB0 := Lib.hid (show Below w.heap.size w wb1 by rw [hw1]; exact (Below.refl w.heap.size w).alloc (Nat.le_refl _) _)
    have s1 : w.heap.size + 1 ≤ wb1.heap.size := by omega
    have HZ1 := Lib.hid z1
    clear z1
    go_wp2_with fail
    rw [← hw1]
    clear hw1
    refine (impl_sample a rows c a' zs c' wb1 (Hhr.out.below HB0.out) (Hhz.out.below HB0.out) hn hk Hhm.out true HS).mono ?_
    rintro e' w2 ⟨rfl, hb⟩
    replace x0_0 := cell_below hb x0_0 (by omega)
    replace x0_1 := cell_below hb x0_1 (by omega)
    have s2 := hb.size
    have HB2 := Lib.hid (HB0.out.trans (hb.mono HB0.out.size))
    clear hb
    go_wp2_with fail
    refine (impl_for a rows c a' zs c' x xs q w2 (Hhr.out.below HB2.out) (Hhx.out.below HB2.out) hn hxn Hhm.out true HT).mono ?_
    rintro e' w3 ⟨rfl, hb⟩
    replace x0_0 := cell_below hb x0_0 (by omega)
    replace x0_1 := cell_below hb x0_1 (by omega)
    have s3 := hb.size
    have HB3 := Lib.hid (HB2.out.trans (hb.mono HB2.out.size))
    clear hb
    go_wp2_with fail
    rw [← e9]
    go_ret
    exact ⟨rfl, HB3.out⟩
set_option maxRecDepth 100000 in
set_option maxHeartbeats 1600000 in
theorem spec_np_no (a : Option Addr) (rows : List (List Int)) (c : Nat) (a' : Option Addr) (zs : List Int) (c' : Nat) (x : Option Addr) (xs : List Int) (q : Nat) (k : Int) (w : World) (hr : grid.Reads w a rows) (hz : ints.Reads .i64 w a' zs) (hx : ints.Reads .i64 w x xs) (hn : rows.length ≤ 1048576) (hk : zs.length ≤ 1048576) (hm : ∀ r ∈ rows, r.length ≤ 1048576) (hxn : xs.length ≤ 1048576) (h : npB rows zs xs k = false) :
    Calls Try.prog 16 #[.agg #[.slice a rows.length c, .slice a' zs.length c'], .slice x xs.length q, .int .i64 k] w (RetIB [] false w) := by
  have Hhr := Lib.hid hr
  have Hhz := Lib.hid hz
  have Hhx := Lib.hid hx
  have Hhm := Lib.hid hm
  clear hr hz hx hm
  rw [np_pt] at h
  cases hp : ptB rows zs xs
  · have HP := Lib.hid hp
    clear h hp
    go_enter Try.func16, Try.ntmps16
    obtain ⟨wb1, hw1⟩ : ∃ wb1 : World, wb1 = w.alloc (.cells #[.slice a rows.length c, .slice a' zs.length c'] 29) := ⟨_, rfl⟩
    have z1 : wb1.heap.size = w.heap.size + 1 := by rw [hw1]; simp
    have x0_0 := (by rw [hw1]; exact cell_new _ _ _ rfl rfl : wb1.cell? ⟨w.heap.size, 0, none⟩ = some (.slice a rows.length c))
    have x0_1 := (by rw [hw1]; exact cell_new _ _ _ rfl rfl : wb1.cell? ⟨w.heap.size, 1, none⟩ = some (.slice a' zs.length c'))
    have HB0 := Lib.hid (show Below w.heap.size w wb1 by rw [hw1]; exact (Below.refl w.heap.size w).alloc (Nat.le_refl _) _)
    have s1 : w.heap.size + 1 ≤ wb1.heap.size := by omega
    have HZ1 := Lib.hid z1
    clear z1
    go_wp2_with fail
    rw [← hw1]
    clear hw1
    refine (spec_pt a rows c a' zs c' x xs q wb1 (Hhr.out.below HB0.out) (Hhz.out.below HB0.out) (Hhx.out.below HB0.out) hn hk Hhm.out hxn false HP).mono ?_
    rintro e' w2 ⟨rfl, hb⟩
    replace x0_0 := cell_below hb x0_0 (by omega)
    replace x0_1 := cell_below hb x0_1 (by omega)
    have s2 := hb.size
    have HB2 := Lib.hid (HB0.out.trans (hb.mono HB0.out.size))
    clear hb
    go_wp2_with fail
    go_ret2
    exact ret_empty HB2.out
  · have HP := Lib.hid hp
    have HR := Lib.hid (show (decide (1 ≤ k) && decide (k ≤ (rows.length : Int))) = false by rw [← h, hp, Bool.true_and])
    clear h hp
    go_enter Try.func16, Try.ntmps16
    obtain ⟨wb1, hw1⟩ : ∃ wb1 : World, wb1 = w.alloc (.cells #[.slice a rows.length c, .slice a' zs.length c'] 29) := ⟨_, rfl⟩
    have z1 : wb1.heap.size = w.heap.size + 1 := by rw [hw1]; simp
    have x0_0 := (by rw [hw1]; exact cell_new _ _ _ rfl rfl : wb1.cell? ⟨w.heap.size, 0, none⟩ = some (.slice a rows.length c))
    have x0_1 := (by rw [hw1]; exact cell_new _ _ _ rfl rfl : wb1.cell? ⟨w.heap.size, 1, none⟩ = some (.slice a' zs.length c'))
    have HB0 := Lib.hid (show Below w.heap.size w wb1 by rw [hw1]; exact (Below.refl w.heap.size w).alloc (Nat.le_refl _) _)
    have s1 : w.heap.size + 1 ≤ wb1.heap.size := by omega
    have HZ1 := Lib.hid z1
    clear z1
    go_wp2_with fail
    rw [← hw1]
    clear hw1
    refine (spec_pt a rows c a' zs c' x xs q wb1 (Hhr.out.below HB0.out) (Hhz.out.below HB0.out) (Hhx.out.below HB0.out) hn hk Hhm.out hxn true HP).mono ?_
    rintro e' w2 ⟨rfl, hb⟩
    replace x0_0 := cell_below hb x0_0 (by omega)
    replace x0_1 := cell_below hb x0_1 (by omega)
    have s2 := hb.size
    have HB2 := Lib.hid (HB0.out.trans (hb.mono HB0.out.size))
    clear hb
    go_wp2_with fail
    refine (in_any _ 1 (rows.length : Int) _ false HR).mono ?_
    rintro e' w' ⟨rfl, rfl⟩
    go_wp2_with fail
    go_ret2
    exact ret_empty HB2.out
set_option maxRecDepth 100000 in
set_option maxHeartbeats 1600000 in
theorem spec_np_yes (a : Option Addr) (rows : List (List Int)) (c : Nat) (a' : Option Addr) (zs : List Int) (c' : Nat) (x : Option Addr) (xs : List Int) (q : Nat) (k : Nat) (w : World) (hr : grid.Reads w a rows) (hz : ints.Reads .i64 w a' zs) (hx : ints.Reads .i64 w x xs) (hn : rows.length ≤ 1048576) (hk : zs.length ≤ 1048576) (hm : ∀ r ∈ rows, r.length ≤ 1048576) (hxn : xs.length ≤ 1048576) (h : npB rows zs xs (k : Int) = true) :
    Calls Try.prog 16 #[.agg #[.slice a rows.length c, .slice a' zs.length c'], .slice x xs.length q, .int .i64 k] w (RetIB ((near (dist rows xs) (ids rows.length)).take k) true w) := by
  have Hhr := Lib.hid hr
  have Hhz := Lib.hid hz
  have Hhx := Lib.hid hx
  have Hhm := Lib.hid hm
  clear hr hz hx hm
  obtain ⟨hs, hf, hk1, hk2⟩ := (npB_iff _ _ _ _).1 h
  have HNB := Lib.hid (ids_nbr hs hf)
  have h16 := ((sampleB_iff _ _).1 hs).1
  rw [np_pt] at h
  have HP := Lib.hid (show ptB rows zs xs = true from (Bool.and_eq_true_iff.1 h).1)
  have HR := Lib.hid (show (decide ((1 : Int) ≤ (k : Int)) && decide ((k : Int) ≤ (rows.length : Int))) = true from (Bool.and_eq_true_iff.1 h).2)
  clear h hs hf
  go_enter Try.func16, Try.ntmps16
  obtain ⟨wb1, hw1⟩ : ∃ wb1 : World, wb1 = w.alloc (.cells #[.slice a rows.length c, .slice a' zs.length c'] 29) := ⟨_, rfl⟩
  have z1 : wb1.heap.size = w.heap.size + 1 := by rw [hw1]; simp
  have x0_0 := (by rw [hw1]; exact cell_new _ _ _ rfl rfl : wb1.cell? ⟨w.heap.size, 0, none⟩ = some (.slice a rows.length c))
  have x0_1 := (by rw [hw1]; exact cell_new _ _ _ rfl rfl : wb1.cell? ⟨w.heap.size, 1, none⟩ = some (.slice a' zs.length c'))
  have HB0 := Lib.hid (show Below w.heap.size w wb1 by rw [hw1]; exact (Below.refl w.heap.size w).alloc (Nat.le_refl _) _)
  have s1 : w.heap.size + 1 ≤ wb1.heap.size := by omega
  have HZ1 := Lib.hid z1
  clear z1
  go_wp2_with fail
  rw [← hw1]
  clear hw1
  refine (spec_pt a rows c a' zs c' x xs q wb1 (Hhr.out.below HB0.out) (Hhz.out.below HB0.out) (Hhx.out.below HB0.out) hn hk Hhm.out hxn true HP).mono ?_
  rintro e' w2 ⟨rfl, hb⟩
  replace x0_0 := cell_below hb x0_0 (by omega)
  replace x0_1 := cell_below hb x0_1 (by omega)
  have s2 := hb.size
  have HB2 := Lib.hid (HB0.out.trans (hb.mono HB0.out.size))
  clear hb
  go_wp2_with fail
  refine (in_any _ 1 (rows.length : Int) _ true HR).mono ?_
  rintro e' w' ⟨rfl, rfl⟩
  go_wp2_with fail
  have HAL := Lib.hid (fun (wa : World) => spec_all a rows c a' zs c' wa hn)
  have HNR := Lib.hid (fun (aA : Option Addr) (cA : Nat) (wa : World) (hb : Below w2.heap.size w2 wa) (hp9 : ints.Reads .i64 wa aA (ids rows.length)) => spec_near a rows c a' zs c' aA (ids rows.length) cA x xs q wa ((Hhr.out.below HB2.out).below hb) hp9 ((Hhx.out.below HB2.out).below hb) HNB.out)
  have HLN := Lib.hid (show (near (dist rows xs) (ids rows.length)).length = rows.length by rw [show (near (dist rows xs) (ids rows.length)).length = (ids rows.length).length from nearTo_length _ _ _, ids_length])
  have HIL := Lib.hid (ids_length rows.length)
  obtain ⟨L, hL⟩ : ∃ L : List Int, L = near (dist rows xs) (ids rows.length) := ⟨_, rfl⟩
  rw [← hL] at HNR HLN
  have HFE := Lib.hid (show ∀ (e' : Ending) (w' : World), RetIB (L.take k) true w e' w' → RetIB ((near (dist rows xs) (ids rows.length)).take k) true w e' w' from by rw [hL]; exact fun _ _ hh => hh)
  clear hL
  have i1 : (0 : Int) ≤ (k : Int) := by omega
  refine wp_region_noPanic ?_
  refine wp_region_held_drew (S := fun w' => w'.cell? ⟨w.heap.size, 0, none⟩ = some (.slice a rows.length c) ∧ w'.cell? ⟨w.heap.size, 1, none⟩ = some (.slice a' zs.length c')) (by kernel_rfl) ?_ (fun hHeld => ?_)
  · exact ⟨x0_0, x0_1⟩
  refine wpAnyH_take (i := 0) (v := ?_) rfl (by kernel_rfl) (by kernel_rfl) (by kernel_rfl) (fun _ _ _ h => h) (Or.inl ⟨by rfl, ?_⟩) (by assumption) ?_
  rotate_left
  · intro w9 hSw; (try dsimp only at hSw); go_simp; try with_reducible rfl
  try simp only [List.getElem_toArray, List.getElem_cons_succ, List.getElem_cons_zero, Act.put, List.setIfInBounds_toArray, List.set_cons_zero, List.set_cons_succ]
  refine wpAnyH_take (i := 1) (v := ?_) rfl (by kernel_rfl) (by kernel_rfl) (by kernel_rfl) (fun _ _ _ h => h) (Or.inl ⟨by rfl, ?_⟩) (by assumption) ?_
  rotate_left
  · intro w9 hSw; (try dsimp only at hSw); go_simp; try with_reducible rfl
  try simp only [List.getElem_toArray, List.getElem_cons_succ, List.getElem_cons_zero, Act.put, List.setIfInBounds_toArray, List.set_cons_zero, List.set_cons_succ]
  refine wpAnyH_take (i := 3) (v := ?_) rfl (by kernel_rfl) (by kernel_rfl) (by kernel_rfl) (fun _ _ _ h => h) (Or.inl ⟨by rfl, ?_⟩) (by assumption) ?_
  rotate_left
  · intro w9 hSw; (try dsimp only at hSw); go_simp; try with_reducible rfl
  try simp only [List.getElem_toArray, List.getElem_cons_succ, List.getElem_cons_zero, Act.put, List.setIfInBounds_toArray, List.set_cons_zero, List.set_cons_succ]
  refine wpAnyH_take (i := 5) (v := ?_) rfl (by kernel_rfl) (by kernel_rfl) (by kernel_rfl) (fun _ _ _ h => h) (Or.inl ⟨by rfl, ?_⟩) (by assumption) ?_
  rotate_left
  · intro w9 hSw; (try dsimp only at hSw); go_simp; try with_reducible rfl
  try simp only [List.getElem_toArray, List.getElem_cons_succ, List.getElem_cons_zero, Act.put, List.setIfInBounds_toArray, List.set_cons_zero, List.set_cons_succ]
  refine wpAnyH_ready (rs := [2]) (by kernel_rfl) (by simp) ?_
  refine AllReadyH.cons rfl (fun K hK => ?_) AllReadyH.nil
  clear hHeld
  go_simp
  refine (HAL.out _).mono ?_
  rintro e' v1 ⟨vA, rfl, hoA, hb⟩
  obtain ⟨aA, cA, rfl, hrA, _, _⟩ := hoA.slice
  have HRA := Lib.hid hrA
  clear hrA hoA
  have HCv1 := Lib.hid ((Below.refl w2.heap.size w2).drew.trans hb)
  have sv1 := HCv1.out.size
  clear hb
  have mv1_0 := cell_below HCv1.out x0_0 (by omega)
  have mv1_1 := cell_below HCv1.out x0_1 (by omega)
  refine hK.out _ _ ?_ (fun hHeld => ?_)
  · exact ⟨mv1_0, mv1_1⟩
  clear hK K
  try simp only [List.getElem_toArray, List.getElem_cons_succ, List.getElem_cons_zero, Act.put, List.setIfInBounds_toArray, List.set_cons_zero, List.set_cons_succ]
  refine wpAnyH_ready (rs := [4]) (by kernel_rfl) (by simp) ?_
  refine AllReadyH.cons rfl (fun K hK => ?_) AllReadyH.nil
  clear hHeld
  go_simp
  refine (HNR.out aA cA v1 HCv1.out HRA.out).mono ?_
  rintro e' v2 ⟨vN, rfl, hoN, hb⟩
  obtain ⟨aN, cN, rfl, hrN, hcN, _⟩ := hoN.slice
  have HRN := Lib.hid hrN
  have hkN : k ≤ cN := by have := HLN.out; omega
  have hkI : (k : Int) ≤ (cN : Int) := by omega
  have HOW := Lib.hid (own1.spec_own aN (L.take k) cN v2 (reads_take hrN k) (by rw [List.length_take]; omega) (by rw [List.length_take]; have := HLN.out; omega))
  rw [show (L.take k).length = k by rw [List.length_take]; have := HLN.out; omega] at HOW
  clear hrN hoN hcN
  have HCv2 := Lib.hid (HCv1.out.trans (hb.mono HCv1.out.size))
  have sv2 := HCv2.out.size
  clear hb
  have mv2_0 := cell_below HCv2.out x0_0 (by omega)
  have mv2_1 := cell_below HCv2.out x0_1 (by omega)
  refine hK.out _ _ ?_ (fun hHeld => ?_)
  · exact ⟨mv2_0, mv2_1⟩
  clear hK K
  try simp only [List.getElem_toArray, List.getElem_cons_succ, List.getElem_cons_zero, Act.put, List.setIfInBounds_toArray, List.set_cons_zero, List.set_cons_succ]
  refine wpAnyH_take (i := 6) (v := ?_) rfl (by kernel_rfl) (by kernel_rfl) (by kernel_rfl) (fun _ _ _ h => h) (Or.inl ⟨by rfl, ?_⟩) (by assumption) ?_
  rotate_left
  · intro w9 hSw; (try dsimp only at hSw); go_simp; try with_reducible rfl
  try simp only [List.getElem_toArray, List.getElem_cons_succ, List.getElem_cons_zero, Act.put, List.setIfInBounds_toArray, List.set_cons_zero, List.set_cons_succ]
  refine wpAnyH_ready (rs := [7]) (by kernel_rfl) (by simp) ?_
  refine AllReadyH.cons rfl (fun K hK => ?_) AllReadyH.nil
  clear hHeld
  go_simp
  refine (HOW.out).mono ?_
  rintro e' v3 ⟨vO, rfl, hoO, hb⟩
  have HOO := Lib.hid hoO
  clear hoO
  have s23 := hb.size
  have HCv3 := Lib.hid (HCv2.out.trans (hb.mono HCv2.out.size))
  have sv3 := HCv3.out.size
  clear hb
  have mv3_0 := cell_below HCv3.out x0_0 (by omega)
  have mv3_1 := cell_below HCv3.out x0_1 (by omega)
  refine hK.out _ _ ?_ (fun hHeld => ?_)
  · exact ⟨mv3_0, mv3_1⟩
  clear hK K
  try simp only [List.getElem_toArray, List.getElem_cons_succ, List.getElem_cons_zero, Act.put, List.setIfInBounds_toArray, List.set_cons_zero, List.set_cons_succ]
  refine wpAnyH_take (i := 8) (v := ?_) rfl (by kernel_rfl) (by kernel_rfl) (by kernel_rfl) (fun _ _ _ h => h) (Or.inl ⟨by rfl, ?_⟩) (by assumption) ?_
  rotate_left
  · intro w9 hSw; (try dsimp only at hSw); go_simp; try with_reducible rfl
  try simp only [List.getElem_toArray, List.getElem_cons_succ, List.getElem_cons_zero, Act.put, List.setIfInBounds_toArray, List.set_cons_zero, List.set_cons_succ]
  refine wpAnyH_take (i := 9) (v := ?_) rfl (by kernel_rfl) (by kernel_rfl) (by kernel_rfl) (fun _ _ _ h => h) (Or.inl ⟨by rfl, ?_⟩) (by assumption) ?_
  rotate_left
  · intro w9 hSw; (try dsimp only at hSw); go_simp; try with_reducible rfl
  try simp only [List.getElem_toArray, List.getElem_cons_succ, List.getElem_cons_zero, Act.put, List.setIfInBounds_toArray, List.set_cons_zero, List.set_cons_succ]
  refine wpAnyH_done (by kernel_rfl) ?_ _
  refine NoPanic.normal ?_
  have HF := Lib.hid (show RetIB (L.take k) true w (.returned (.tuple #[vO, .bool true])) v3 from ⟨_, rfl, HOO.out.mono (by omega) (Nat.le_refl _), HB2.out.trans (HCv3.out.mono (by omega))⟩)
  go_wp2_with fail
  go_ret2
  exact HFE.out _ _ HF.out
set_option maxRecDepth 100000 in
set_option maxHeartbeats 1600000 in
theorem impl_np_no (a : Option Addr) (rows : List (List Int)) (c : Nat) (a' : Option Addr) (zs : List Int) (c' : Nat) (x : Option Addr) (xs : List Int) (q : Nat) (k : Int) (w : World) (hr : grid.Reads w a rows) (hz : ints.Reads .i64 w a' zs) (hx : ints.Reads .i64 w x xs) (hn : rows.length ≤ 1048576) (hk : zs.length ≤ 1048576) (hm : ∀ r ∈ rows, r.length ≤ 1048576) (hxn : xs.length ≤ 1048576) (h : npB rows zs xs k = false) :
    Calls Try.prog 19 #[.agg #[.slice a rows.length c, .slice a' zs.length c'], .slice x xs.length q, .int .i64 k] w (RetIB [] false w) := by
  have Hhr := Lib.hid hr
  have Hhz := Lib.hid hz
  have Hhx := Lib.hid hx
  have Hhm := Lib.hid hm
  clear hr hz hx hm
  have HP := Lib.hid h
  clear h
  go_enter Try.func19, Try.ntmps19
  obtain ⟨wb1, hw1⟩ : ∃ wb1 : World, wb1 = w.alloc (.cells #[.slice a rows.length c, .slice a' zs.length c'] 29) := ⟨_, rfl⟩
  have z1 : wb1.heap.size = w.heap.size + 1 := by rw [hw1]; simp
  have x0_0 := (by rw [hw1]; exact cell_new _ _ _ rfl rfl : wb1.cell? ⟨w.heap.size, 0, none⟩ = some (.slice a rows.length c))
  have x0_1 := (by rw [hw1]; exact cell_new _ _ _ rfl rfl : wb1.cell? ⟨w.heap.size, 1, none⟩ = some (.slice a' zs.length c'))
  have HB0 := Lib.hid (show Below w.heap.size w wb1 by rw [hw1]; exact (Below.refl w.heap.size w).alloc (Nat.le_refl _) _)
  have s1 : w.heap.size + 1 ≤ wb1.heap.size := by omega
  have HZ1 := Lib.hid z1
  clear z1
  go_wp2_with fail
  rw [← hw1]
  clear hw1
  refine (impl_has a rows c a' zs c' x xs q _ wb1 (Hhr.out.below HB0.out) (Hhz.out.below HB0.out) (Hhx.out.below HB0.out) hn hk Hhm.out hxn false HP).mono ?_
  rintro e' w2 ⟨rfl, hb⟩
  replace x0_0 := cell_below hb x0_0 (by omega)
  replace x0_1 := cell_below hb x0_1 (by omega)
  have s2 := hb.size
  have HB2 := Lib.hid (HB0.out.trans (hb.mono HB0.out.size))
  clear hb
  go_wp2_with fail
  go_ret2
  exact ret_empty HB2.out
set_option maxRecDepth 100000 in
set_option maxHeartbeats 1600000 in
theorem impl_np_yes (a : Option Addr) (rows : List (List Int)) (c : Nat) (a' : Option Addr) (zs : List Int) (c' : Nat) (x : Option Addr) (xs : List Int) (q : Nat) (k : Nat) (w : World) (hr : grid.Reads w a rows) (hz : ints.Reads .i64 w a' zs) (hx : ints.Reads .i64 w x xs) (hn : rows.length ≤ 1048576) (hk : zs.length ≤ 1048576) (hm : ∀ r ∈ rows, r.length ≤ 1048576) (hxn : xs.length ≤ 1048576) (h : npB rows zs xs (k : Int) = true) :
    Calls Try.prog 19 #[.agg #[.slice a rows.length c, .slice a' zs.length c'], .slice x xs.length q, .int .i64 k] w (RetIB ((near (dist rows xs) (ids rows.length)).take k) true w) := by
  have Hhr := Lib.hid hr
  have Hhz := Lib.hid hz
  have Hhx := Lib.hid hx
  have Hhm := Lib.hid hm
  clear hr hz hx hm
  obtain ⟨hs, hf, hk1, hk2⟩ := (npB_iff _ _ _ _).1 h
  have HNB := Lib.hid (ids_nbr hs hf)
  have h16 := ((sampleB_iff _ _).1 hs).1
  have HP := Lib.hid h
  clear h hs hf
  go_enter Try.func19, Try.ntmps19
  obtain ⟨wb1, hw1⟩ : ∃ wb1 : World, wb1 = w.alloc (.cells #[.slice a rows.length c, .slice a' zs.length c'] 29) := ⟨_, rfl⟩
  have z1 : wb1.heap.size = w.heap.size + 1 := by rw [hw1]; simp
  have x0_0 := (by rw [hw1]; exact cell_new _ _ _ rfl rfl : wb1.cell? ⟨w.heap.size, 0, none⟩ = some (.slice a rows.length c))
  have x0_1 := (by rw [hw1]; exact cell_new _ _ _ rfl rfl : wb1.cell? ⟨w.heap.size, 1, none⟩ = some (.slice a' zs.length c'))
  have HB0 := Lib.hid (show Below w.heap.size w wb1 by rw [hw1]; exact (Below.refl w.heap.size w).alloc (Nat.le_refl _) _)
  have s1 : w.heap.size + 1 ≤ wb1.heap.size := by omega
  have HZ1 := Lib.hid z1
  clear z1
  go_wp2_with fail
  rw [← hw1]
  clear hw1
  refine (impl_has a rows c a' zs c' x xs q _ wb1 (Hhr.out.below HB0.out) (Hhz.out.below HB0.out) (Hhx.out.below HB0.out) hn hk Hhm.out hxn true HP).mono ?_
  rintro e' w2 ⟨rfl, hb⟩
  replace x0_0 := cell_below hb x0_0 (by omega)
  replace x0_1 := cell_below hb x0_1 (by omega)
  have s2 := hb.size
  have HB2 := Lib.hid (HB0.out.trans (hb.mono HB0.out.size))
  clear hb
  go_wp2_with fail
  have HAL := Lib.hid (fun (wa : World) => impl_all a rows c a' zs c' wa hn)
  have HNR := Lib.hid (fun (aA : Option Addr) (cA : Nat) (wa : World) (hb : Below w2.heap.size w2 wa) (hp9 : ints.Reads .i64 wa aA (ids rows.length)) => impl_near a rows c a' zs c' aA (ids rows.length) cA x xs q k wa ((Hhr.out.below HB2.out).below hb) hp9 ((Hhx.out.below HB2.out).below hb) HNB.out (by rw [ids_length]; omega))
  refine wp_region_noPanic ?_
  refine wp_region_held_drew (S := fun w' => w'.cell? ⟨w.heap.size, 0, none⟩ = some (.slice a rows.length c) ∧ w'.cell? ⟨w.heap.size, 1, none⟩ = some (.slice a' zs.length c')) (by kernel_rfl) ?_ (fun hHeld => ?_)
  · exact ⟨x0_0, x0_1⟩
  refine wpAnyH_take (i := 0) (v := ?_) rfl (by kernel_rfl) (by kernel_rfl) (by kernel_rfl) (fun _ _ _ h => h) (Or.inl ⟨by rfl, ?_⟩) (by assumption) ?_
  rotate_left
  · intro w9 hSw; (try dsimp only at hSw); go_simp; try with_reducible rfl
  try simp only [List.getElem_toArray, List.getElem_cons_succ, List.getElem_cons_zero, Act.put, List.setIfInBounds_toArray, List.set_cons_zero, List.set_cons_succ]
  refine wpAnyH_take (i := 1) (v := ?_) rfl (by kernel_rfl) (by kernel_rfl) (by kernel_rfl) (fun _ _ _ h => h) (Or.inl ⟨by rfl, ?_⟩) (by assumption) ?_
  rotate_left
  · intro w9 hSw; (try dsimp only at hSw); go_simp; try with_reducible rfl
  try simp only [List.getElem_toArray, List.getElem_cons_succ, List.getElem_cons_zero, Act.put, List.setIfInBounds_toArray, List.set_cons_zero, List.set_cons_succ]
  refine wpAnyH_take (i := 3) (v := ?_) rfl (by kernel_rfl) (by kernel_rfl) (by kernel_rfl) (fun _ _ _ h => h) (Or.inl ⟨by rfl, ?_⟩) (by assumption) ?_
  rotate_left
  · intro w9 hSw; (try dsimp only at hSw); go_simp; try with_reducible rfl
  try simp only [List.getElem_toArray, List.getElem_cons_succ, List.getElem_cons_zero, Act.put, List.setIfInBounds_toArray, List.set_cons_zero, List.set_cons_succ]
  refine wpAnyH_take (i := 4) (v := ?_) rfl (by kernel_rfl) (by kernel_rfl) (by kernel_rfl) (fun _ _ _ h => h) (Or.inl ⟨by rfl, ?_⟩) (by assumption) ?_
  rotate_left
  · intro w9 hSw; (try dsimp only at hSw); go_simp; try with_reducible rfl
  try simp only [List.getElem_toArray, List.getElem_cons_succ, List.getElem_cons_zero, Act.put, List.setIfInBounds_toArray, List.set_cons_zero, List.set_cons_succ]
  refine wpAnyH_ready (rs := [2]) (by kernel_rfl) (by simp) ?_
  refine AllReadyH.cons rfl (fun K hK => ?_) AllReadyH.nil
  clear hHeld
  go_simp
  refine (HAL.out _).mono ?_
  rintro e' v1 ⟨vA, rfl, hoA, hb⟩
  obtain ⟨aA, cA, rfl, hrA, _, _⟩ := hoA.slice
  have HRA := Lib.hid hrA
  clear hrA hoA
  have HCv1 := Lib.hid ((Below.refl w2.heap.size w2).drew.trans hb)
  have sv1 := HCv1.out.size
  clear hb
  have mv1_0 := cell_below HCv1.out x0_0 (by omega)
  have mv1_1 := cell_below HCv1.out x0_1 (by omega)
  refine hK.out _ _ ?_ (fun hHeld => ?_)
  · exact ⟨mv1_0, mv1_1⟩
  clear hK K
  try simp only [List.getElem_toArray, List.getElem_cons_succ, List.getElem_cons_zero, Act.put, List.setIfInBounds_toArray, List.set_cons_zero, List.set_cons_succ]
  refine wpAnyH_ready (rs := [5]) (by kernel_rfl) (by simp) ?_
  refine AllReadyH.cons rfl (fun K hK => ?_) AllReadyH.nil
  clear hHeld
  go_simp
  refine (HNR.out aA cA v1 HCv1.out HRA.out).mono ?_
  rintro e' v3 ⟨vO, rfl, hoO, hb⟩
  have HOO := Lib.hid hoO
  clear hoO
  have s23 := hb.size
  have HCv3 := Lib.hid (HCv1.out.trans (hb.mono HCv1.out.size))
  have sv3 := HCv3.out.size
  clear hb
  have mv3_0 := cell_below HCv3.out x0_0 (by omega)
  have mv3_1 := cell_below HCv3.out x0_1 (by omega)
  refine hK.out _ _ ?_ (fun hHeld => ?_)
  · exact ⟨mv3_0, mv3_1⟩
  clear hK K
  try simp only [List.getElem_toArray, List.getElem_cons_succ, List.getElem_cons_zero, Act.put, List.setIfInBounds_toArray, List.set_cons_zero, List.set_cons_succ]
  refine wpAnyH_take (i := 6) (v := ?_) rfl (by kernel_rfl) (by kernel_rfl) (by kernel_rfl) (fun _ _ _ h => h) (Or.inl ⟨by rfl, ?_⟩) (by assumption) ?_
  rotate_left
  · intro w9 hSw; (try dsimp only at hSw); go_simp; try with_reducible rfl
  try simp only [List.getElem_toArray, List.getElem_cons_succ, List.getElem_cons_zero, Act.put, List.setIfInBounds_toArray, List.set_cons_zero, List.set_cons_succ]
  refine wpAnyH_take (i := 7) (v := ?_) rfl (by kernel_rfl) (by kernel_rfl) (by kernel_rfl) (fun _ _ _ h => h) (Or.inl ⟨by rfl, ?_⟩) (by assumption) ?_
  rotate_left
  · intro w9 hSw; (try dsimp only at hSw); go_simp; try with_reducible rfl
  try simp only [List.getElem_toArray, List.getElem_cons_succ, List.getElem_cons_zero, Act.put, List.setIfInBounds_toArray, List.set_cons_zero, List.set_cons_succ]
  refine wpAnyH_done (by kernel_rfl) ?_ _
  refine NoPanic.normal ?_
  have HF := Lib.hid (show RetIB ((near (dist rows xs) (ids rows.length)).take k) true w (.returned (.tuple #[vO, .bool true])) v3 from ⟨_, rfl, HOO.out.mono (by omega) (Nat.le_refl _), HB2.out.trans (HCv3.out.mono (by omega))⟩)
  go_wp2_with fail
  go_ret2
  exact HF.out
set_option maxRecDepth 100000 in
set_option maxHeartbeats 1600000 in
theorem spec_nl_no (a : Option Addr) (rows : List (List Int)) (c : Nat) (a' : Option Addr) (zs : List Int) (c' : Nat) (x : Option Addr) (xs : List Int) (q : Nat) (k : Int) (w : World) (hr : grid.Reads w a rows) (hz : ints.Reads .i64 w a' zs) (hx : ints.Reads .i64 w x xs) (hn : rows.length ≤ 1048576) (hk : zs.length ≤ 1048576) (hm : ∀ r ∈ rows, r.length ≤ 1048576) (hxn : xs.length ≤ 1048576) (h : npB rows zs xs k = false) :
    Calls Try.prog 25 #[.agg #[.slice a rows.length c, .slice a' zs.length c'], .slice x xs.length q, .int .i64 k] w (RetNB 0 false w) := by
  have Hhr := Lib.hid hr
  have Hhz := Lib.hid hz
  have Hhx := Lib.hid hx
  have Hhm := Lib.hid hm
  clear hr hz hx hm
  rw [np_pt] at h
  cases hp : ptB rows zs xs
  · have HP := Lib.hid hp
    clear h hp
    go_enter Try.func25, Try.ntmps25
    obtain ⟨wb1, hw1⟩ : ∃ wb1 : World, wb1 = w.alloc (.cells #[.slice a rows.length c, .slice a' zs.length c'] 29) := ⟨_, rfl⟩
    have z1 : wb1.heap.size = w.heap.size + 1 := by rw [hw1]; simp
    have x0_0 := (by rw [hw1]; exact cell_new _ _ _ rfl rfl : wb1.cell? ⟨w.heap.size, 0, none⟩ = some (.slice a rows.length c))
    have x0_1 := (by rw [hw1]; exact cell_new _ _ _ rfl rfl : wb1.cell? ⟨w.heap.size, 1, none⟩ = some (.slice a' zs.length c'))
    have HB0 := Lib.hid (show Below w.heap.size w wb1 by rw [hw1]; exact (Below.refl w.heap.size w).alloc (Nat.le_refl _) _)
    have s1 : w.heap.size + 1 ≤ wb1.heap.size := by omega
    have HZ1 := Lib.hid z1
    clear z1
    go_wp2_with fail
    rw [← hw1]
    clear hw1
    refine (spec_pt a rows c a' zs c' x xs q wb1 (Hhr.out.below HB0.out) (Hhz.out.below HB0.out) (Hhx.out.below HB0.out) hn hk Hhm.out hxn false HP).mono ?_
    rintro e' w2 ⟨rfl, hb⟩
    replace x0_0 := cell_below hb x0_0 (by omega)
    replace x0_1 := cell_below hb x0_1 (by omega)
    have s2 := hb.size
    have HB2 := Lib.hid (HB0.out.trans (hb.mono HB0.out.size))
    clear hb
    go_wp2_with fail
    go_ret2
    exact ⟨rfl, HB2.out⟩
  · have HP := Lib.hid hp
    have HR := Lib.hid (show (decide (1 ≤ k) && decide (k ≤ (rows.length : Int))) = false by rw [← h, hp, Bool.true_and])
    clear h hp
    go_enter Try.func25, Try.ntmps25
    obtain ⟨wb1, hw1⟩ : ∃ wb1 : World, wb1 = w.alloc (.cells #[.slice a rows.length c, .slice a' zs.length c'] 29) := ⟨_, rfl⟩
    have z1 : wb1.heap.size = w.heap.size + 1 := by rw [hw1]; simp
    have x0_0 := (by rw [hw1]; exact cell_new _ _ _ rfl rfl : wb1.cell? ⟨w.heap.size, 0, none⟩ = some (.slice a rows.length c))
    have x0_1 := (by rw [hw1]; exact cell_new _ _ _ rfl rfl : wb1.cell? ⟨w.heap.size, 1, none⟩ = some (.slice a' zs.length c'))
    have HB0 := Lib.hid (show Below w.heap.size w wb1 by rw [hw1]; exact (Below.refl w.heap.size w).alloc (Nat.le_refl _) _)
    have s1 : w.heap.size + 1 ≤ wb1.heap.size := by omega
    have HZ1 := Lib.hid z1
    clear z1
    go_wp2_with fail
    rw [← hw1]
    clear hw1
    refine (spec_pt a rows c a' zs c' x xs q wb1 (Hhr.out.below HB0.out) (Hhz.out.below HB0.out) (Hhx.out.below HB0.out) hn hk Hhm.out hxn true HP).mono ?_
    rintro e' w2 ⟨rfl, hb⟩
    replace x0_0 := cell_below hb x0_0 (by omega)
    replace x0_1 := cell_below hb x0_1 (by omega)
    have s2 := hb.size
    have HB2 := Lib.hid (HB0.out.trans (hb.mono HB0.out.size))
    clear hb
    go_wp2_with fail
    refine (in_any _ 1 (rows.length : Int) _ false HR).mono ?_
    rintro e' w' ⟨rfl, rfl⟩
    go_wp2_with fail
    go_ret2
    exact ⟨rfl, HB2.out⟩
set_option maxRecDepth 100000 in
set_option maxHeartbeats 1600000 in
theorem spec_nl_yes (a : Option Addr) (rows : List (List Int)) (c : Nat) (a' : Option Addr) (zs : List Int) (c' : Nat) (x : Option Addr) (xs : List Int) (q : Nat) (k : Nat) (w : World) (hr : grid.Reads w a rows) (hz : ints.Reads .i64 w a' zs) (hx : ints.Reads .i64 w x xs) (hn : rows.length ≤ 1048576) (hk : zs.length ≤ 1048576) (hm : ∀ r ∈ rows, r.length ≤ 1048576) (hxn : xs.length ≤ 1048576) (h : npB rows zs xs (k : Int) = true) :
    Calls Try.prog 25 #[.agg #[.slice a rows.length c, .slice a' zs.length c'], .slice x xs.length q, .int .i64 k] w (RetNB (nlab rows zs (ids rows.length) xs k) true w) := by
  have Hhr := Lib.hid hr
  have Hhz := Lib.hid hz
  have Hhx := Lib.hid hx
  have Hhm := Lib.hid hm
  clear hr hz hx hm
  obtain ⟨hs, hf, hk1, hk2⟩ := (npB_iff _ _ _ _).1 h
  have HNB := Lib.hid (ids_nbr hs hf)
  have h16 := ((sampleB_iff _ _).1 hs).1
  have HLB := Lib.hid (lab_of ((sampleB_iff _ _).1 hs).2.2.1)
  have HLZ := Lib.hid ((sampleB_iff _ _).1 hs).2.1
  rw [np_pt] at h
  have HP := Lib.hid (show ptB rows zs xs = true from (Bool.and_eq_true_iff.1 h).1)
  have HR := Lib.hid (show (decide ((1 : Int) ≤ (k : Int)) && decide ((k : Int) ≤ (rows.length : Int))) = true from (Bool.and_eq_true_iff.1 h).2)
  clear h hs hf
  go_enter Try.func25, Try.ntmps25
  obtain ⟨wb1, hw1⟩ : ∃ wb1 : World, wb1 = w.alloc (.cells #[.slice a rows.length c, .slice a' zs.length c'] 29) := ⟨_, rfl⟩
  have z1 : wb1.heap.size = w.heap.size + 1 := by rw [hw1]; simp
  have x0_0 := (by rw [hw1]; exact cell_new _ _ _ rfl rfl : wb1.cell? ⟨w.heap.size, 0, none⟩ = some (.slice a rows.length c))
  have x0_1 := (by rw [hw1]; exact cell_new _ _ _ rfl rfl : wb1.cell? ⟨w.heap.size, 1, none⟩ = some (.slice a' zs.length c'))
  have HB0 := Lib.hid (show Below w.heap.size w wb1 by rw [hw1]; exact (Below.refl w.heap.size w).alloc (Nat.le_refl _) _)
  have s1 : w.heap.size + 1 ≤ wb1.heap.size := by omega
  have HZ1 := Lib.hid z1
  clear z1
  go_wp2_with fail
  rw [← hw1]
  clear hw1
  refine (spec_pt a rows c a' zs c' x xs q wb1 (Hhr.out.below HB0.out) (Hhz.out.below HB0.out) (Hhx.out.below HB0.out) hn hk Hhm.out hxn true HP).mono ?_
  rintro e' w2 ⟨rfl, hb⟩
  replace x0_0 := cell_below hb x0_0 (by omega)
  replace x0_1 := cell_below hb x0_1 (by omega)
  have s2 := hb.size
  have HB2 := Lib.hid (HB0.out.trans (hb.mono HB0.out.size))
  clear hb
  go_wp2_with fail
  refine (in_any _ 1 (rows.length : Int) _ true HR).mono ?_
  rintro e' w' ⟨rfl, rfl⟩
  go_wp2_with fail
  have HAL := Lib.hid (fun (wa : World) => spec_all a rows c a' zs c' wa hn)
  have HNR := Lib.hid (fun (aA : Option Addr) (cA : Nat) (wa : World) (hb : Below w2.heap.size w2 wa) (hp9 : ints.Reads .i64 wa aA (ids rows.length)) => spec_nlab a rows c a' zs c' aA (ids rows.length) cA x xs q k wa ((Hhr.out.below HB2.out).below hb) ((Hhz.out.below HB2.out).below hb) hp9 ((Hhx.out.below HB2.out).below hb) HNB.out HLB.out HLZ.out (by rw [ids_length]; omega))
  refine wp_region_noPanic ?_
  refine wp_region_held_drew (S := fun w' => w'.cell? ⟨w.heap.size, 0, none⟩ = some (.slice a rows.length c) ∧ w'.cell? ⟨w.heap.size, 1, none⟩ = some (.slice a' zs.length c')) (by kernel_rfl) ?_ (fun hHeld => ?_)
  · exact ⟨x0_0, x0_1⟩
  refine wpAnyH_take (i := 0) (v := ?_) rfl (by kernel_rfl) (by kernel_rfl) (by kernel_rfl) (fun _ _ _ h => h) (Or.inl ⟨by rfl, ?_⟩) (by assumption) ?_
  rotate_left
  · intro w9 hSw; (try dsimp only at hSw); go_simp; try with_reducible rfl
  try simp only [List.getElem_toArray, List.getElem_cons_succ, List.getElem_cons_zero, Act.put, List.setIfInBounds_toArray, List.set_cons_zero, List.set_cons_succ]
  refine wpAnyH_take (i := 1) (v := ?_) rfl (by kernel_rfl) (by kernel_rfl) (by kernel_rfl) (fun _ _ _ h => h) (Or.inl ⟨by rfl, ?_⟩) (by assumption) ?_
  rotate_left
  · intro w9 hSw; (try dsimp only at hSw); go_simp; try with_reducible rfl
  try simp only [List.getElem_toArray, List.getElem_cons_succ, List.getElem_cons_zero, Act.put, List.setIfInBounds_toArray, List.set_cons_zero, List.set_cons_succ]
  refine wpAnyH_take (i := 3) (v := ?_) rfl (by kernel_rfl) (by kernel_rfl) (by kernel_rfl) (fun _ _ _ h => h) (Or.inl ⟨by rfl, ?_⟩) (by assumption) ?_
  rotate_left
  · intro w9 hSw; (try dsimp only at hSw); go_simp; try with_reducible rfl
  try simp only [List.getElem_toArray, List.getElem_cons_succ, List.getElem_cons_zero, Act.put, List.setIfInBounds_toArray, List.set_cons_zero, List.set_cons_succ]
  refine wpAnyH_take (i := 4) (v := ?_) rfl (by kernel_rfl) (by kernel_rfl) (by kernel_rfl) (fun _ _ _ h => h) (Or.inl ⟨by rfl, ?_⟩) (by assumption) ?_
  rotate_left
  · intro w9 hSw; (try dsimp only at hSw); go_simp; try with_reducible rfl
  try simp only [List.getElem_toArray, List.getElem_cons_succ, List.getElem_cons_zero, Act.put, List.setIfInBounds_toArray, List.set_cons_zero, List.set_cons_succ]
  refine wpAnyH_ready (rs := [2]) (by kernel_rfl) (by simp) ?_
  refine AllReadyH.cons rfl (fun K hK => ?_) AllReadyH.nil
  clear hHeld
  go_simp
  refine (HAL.out _).mono ?_
  rintro e' v1 ⟨vA, rfl, hoA, hb⟩
  obtain ⟨aA, cA, rfl, hrA, _, _⟩ := hoA.slice
  have HRA := Lib.hid hrA
  clear hrA hoA
  have HCv1 := Lib.hid ((Below.refl w2.heap.size w2).drew.trans hb)
  have sv1 := HCv1.out.size
  clear hb
  have mv1_0 := cell_below HCv1.out x0_0 (by omega)
  have mv1_1 := cell_below HCv1.out x0_1 (by omega)
  refine hK.out _ _ ?_ (fun hHeld => ?_)
  · exact ⟨mv1_0, mv1_1⟩
  clear hK K
  try simp only [List.getElem_toArray, List.getElem_cons_succ, List.getElem_cons_zero, Act.put, List.setIfInBounds_toArray, List.set_cons_zero, List.set_cons_succ]
  refine wpAnyH_ready (rs := [5]) (by kernel_rfl) (by simp) ?_
  refine AllReadyH.cons rfl (fun K hK => ?_) AllReadyH.nil
  clear hHeld
  go_simp
  refine (HNR.out aA cA v1 HCv1.out HRA.out).mono ?_
  rintro e' v3 ⟨rfl, hb⟩
  have HCv3 := Lib.hid (HCv1.out.trans (hb.mono HCv1.out.size))
  have sv3 := HCv3.out.size
  clear hb
  have mv3_0 := cell_below HCv3.out x0_0 (by omega)
  have mv3_1 := cell_below HCv3.out x0_1 (by omega)
  refine hK.out _ _ ?_ (fun hHeld => ?_)
  · exact ⟨mv3_0, mv3_1⟩
  clear hK K
  try simp only [List.getElem_toArray, List.getElem_cons_succ, List.getElem_cons_zero, Act.put, List.setIfInBounds_toArray, List.set_cons_zero, List.set_cons_succ]
  refine wpAnyH_take (i := 6) (v := ?_) rfl (by kernel_rfl) (by kernel_rfl) (by kernel_rfl) (fun _ _ _ h => h) (Or.inl ⟨by rfl, ?_⟩) (by assumption) ?_
  rotate_left
  · intro w9 hSw; (try dsimp only at hSw); go_simp; try with_reducible rfl
  try simp only [List.getElem_toArray, List.getElem_cons_succ, List.getElem_cons_zero, Act.put, List.setIfInBounds_toArray, List.set_cons_zero, List.set_cons_succ]
  refine wpAnyH_take (i := 7) (v := ?_) rfl (by kernel_rfl) (by kernel_rfl) (by kernel_rfl) (fun _ _ _ h => h) (Or.inl ⟨by rfl, ?_⟩) (by assumption) ?_
  rotate_left
  · intro w9 hSw; (try dsimp only at hSw); go_simp; try with_reducible rfl
  try simp only [List.getElem_toArray, List.getElem_cons_succ, List.getElem_cons_zero, Act.put, List.setIfInBounds_toArray, List.set_cons_zero, List.set_cons_succ]
  refine wpAnyH_done (by kernel_rfl) ?_ _
  refine NoPanic.normal ?_
  go_wp2_with fail
  go_ret2
  exact ⟨rfl, HB2.out.trans (HCv3.out.mono (by omega))⟩
set_option maxRecDepth 100000 in
set_option maxHeartbeats 1600000 in
theorem impl_nl_no (a : Option Addr) (rows : List (List Int)) (c : Nat) (a' : Option Addr) (zs : List Int) (c' : Nat) (x : Option Addr) (xs : List Int) (q : Nat) (k : Int) (w : World) (hr : grid.Reads w a rows) (hz : ints.Reads .i64 w a' zs) (hx : ints.Reads .i64 w x xs) (hn : rows.length ≤ 1048576) (hk : zs.length ≤ 1048576) (hm : ∀ r ∈ rows, r.length ≤ 1048576) (hxn : xs.length ≤ 1048576) (h : npB rows zs xs k = false) :
    Calls Try.prog 26 #[.agg #[.slice a rows.length c, .slice a' zs.length c'], .slice x xs.length q, .int .i64 k] w (RetNB 0 false w) := by
  have Hhr := Lib.hid hr
  have Hhz := Lib.hid hz
  have Hhx := Lib.hid hx
  have Hhm := Lib.hid hm
  clear hr hz hx hm
  have HP := Lib.hid h
  clear h
  go_enter Try.func26, Try.ntmps26
  obtain ⟨wb1, hw1⟩ : ∃ wb1 : World, wb1 = w.alloc (.cells #[.slice a rows.length c, .slice a' zs.length c'] 29) := ⟨_, rfl⟩
  have z1 : wb1.heap.size = w.heap.size + 1 := by rw [hw1]; simp
  have x0_0 := (by rw [hw1]; exact cell_new _ _ _ rfl rfl : wb1.cell? ⟨w.heap.size, 0, none⟩ = some (.slice a rows.length c))
  have x0_1 := (by rw [hw1]; exact cell_new _ _ _ rfl rfl : wb1.cell? ⟨w.heap.size, 1, none⟩ = some (.slice a' zs.length c'))
  have HB0 := Lib.hid (show Below w.heap.size w wb1 by rw [hw1]; exact (Below.refl w.heap.size w).alloc (Nat.le_refl _) _)
  have s1 : w.heap.size + 1 ≤ wb1.heap.size := by omega
  have HZ1 := Lib.hid z1
  clear z1
  go_wp2_with fail
  rw [← hw1]
  clear hw1
  refine (impl_has a rows c a' zs c' x xs q _ wb1 (Hhr.out.below HB0.out) (Hhz.out.below HB0.out) (Hhx.out.below HB0.out) hn hk Hhm.out hxn false HP).mono ?_
  rintro e' w2 ⟨rfl, hb⟩
  replace x0_0 := cell_below hb x0_0 (by omega)
  replace x0_1 := cell_below hb x0_1 (by omega)
  have s2 := hb.size
  have HB2 := Lib.hid (HB0.out.trans (hb.mono HB0.out.size))
  clear hb
  go_wp2_with fail
  go_ret2
  exact ⟨rfl, HB2.out⟩
set_option maxRecDepth 100000 in
set_option maxHeartbeats 1600000 in
theorem impl_nl_yes (a : Option Addr) (rows : List (List Int)) (c : Nat) (a' : Option Addr) (zs : List Int) (c' : Nat) (x : Option Addr) (xs : List Int) (q : Nat) (k : Nat) (w : World) (hr : grid.Reads w a rows) (hz : ints.Reads .i64 w a' zs) (hx : ints.Reads .i64 w x xs) (hn : rows.length ≤ 1048576) (hk : zs.length ≤ 1048576) (hm : ∀ r ∈ rows, r.length ≤ 1048576) (hxn : xs.length ≤ 1048576) (h : npB rows zs xs (k : Int) = true) :
    Calls Try.prog 26 #[.agg #[.slice a rows.length c, .slice a' zs.length c'], .slice x xs.length q, .int .i64 k] w (RetNB (nlab rows zs (ids rows.length) xs k) true w) := by
  have Hhr := Lib.hid hr
  have Hhz := Lib.hid hz
  have Hhx := Lib.hid hx
  have Hhm := Lib.hid hm
  clear hr hz hx hm
  obtain ⟨hs, hf, hk1, hk2⟩ := (npB_iff _ _ _ _).1 h
  have HNB := Lib.hid (ids_nbr hs hf)
  have h16 := ((sampleB_iff _ _).1 hs).1
  have HLB := Lib.hid (lab_of ((sampleB_iff _ _).1 hs).2.2.1)
  have HLZ := Lib.hid ((sampleB_iff _ _).1 hs).2.1
  have HP := Lib.hid h
  clear h hs hf
  go_enter Try.func26, Try.ntmps26
  obtain ⟨wb1, hw1⟩ : ∃ wb1 : World, wb1 = w.alloc (.cells #[.slice a rows.length c, .slice a' zs.length c'] 29) := ⟨_, rfl⟩
  have z1 : wb1.heap.size = w.heap.size + 1 := by rw [hw1]; simp
  have x0_0 := (by rw [hw1]; exact cell_new _ _ _ rfl rfl : wb1.cell? ⟨w.heap.size, 0, none⟩ = some (.slice a rows.length c))
  have x0_1 := (by rw [hw1]; exact cell_new _ _ _ rfl rfl : wb1.cell? ⟨w.heap.size, 1, none⟩ = some (.slice a' zs.length c'))
  have HB0 := Lib.hid (show Below w.heap.size w wb1 by rw [hw1]; exact (Below.refl w.heap.size w).alloc (Nat.le_refl _) _)
  have s1 : w.heap.size + 1 ≤ wb1.heap.size := by omega
  have HZ1 := Lib.hid z1
  clear z1
  go_wp2_with fail
  rw [← hw1]
  clear hw1
  refine (impl_has a rows c a' zs c' x xs q _ wb1 (Hhr.out.below HB0.out) (Hhz.out.below HB0.out) (Hhx.out.below HB0.out) hn hk Hhm.out hxn true HP).mono ?_
  rintro e' w2 ⟨rfl, hb⟩
  replace x0_0 := cell_below hb x0_0 (by omega)
  replace x0_1 := cell_below hb x0_1 (by omega)
  have s2 := hb.size
  have HB2 := Lib.hid (HB0.out.trans (hb.mono HB0.out.size))
  clear hb
  go_wp2_with fail
  have HAL := Lib.hid (fun (wa : World) => impl_all a rows c a' zs c' wa hn)
  have HNR := Lib.hid (fun (aA : Option Addr) (cA : Nat) (wa : World) (hb : Below w2.heap.size w2 wa) (hp9 : ints.Reads .i64 wa aA (ids rows.length)) => impl_nlab a rows c a' zs c' aA (ids rows.length) cA x xs q k wa ((Hhr.out.below HB2.out).below hb) ((Hhz.out.below HB2.out).below hb) hp9 ((Hhx.out.below HB2.out).below hb) HNB.out HLB.out HLZ.out (by rw [ids_length]; omega))
  refine wp_region_noPanic ?_
  refine wp_region_held_drew (S := fun w' => w'.cell? ⟨w.heap.size, 0, none⟩ = some (.slice a rows.length c) ∧ w'.cell? ⟨w.heap.size, 1, none⟩ = some (.slice a' zs.length c')) (by kernel_rfl) ?_ (fun hHeld => ?_)
  · exact ⟨x0_0, x0_1⟩
  refine wpAnyH_take (i := 0) (v := ?_) rfl (by kernel_rfl) (by kernel_rfl) (by kernel_rfl) (fun _ _ _ h => h) (Or.inl ⟨by rfl, ?_⟩) (by assumption) ?_
  rotate_left
  · intro w9 hSw; (try dsimp only at hSw); go_simp; try with_reducible rfl
  try simp only [List.getElem_toArray, List.getElem_cons_succ, List.getElem_cons_zero, Act.put, List.setIfInBounds_toArray, List.set_cons_zero, List.set_cons_succ]
  refine wpAnyH_take (i := 1) (v := ?_) rfl (by kernel_rfl) (by kernel_rfl) (by kernel_rfl) (fun _ _ _ h => h) (Or.inl ⟨by rfl, ?_⟩) (by assumption) ?_
  rotate_left
  · intro w9 hSw; (try dsimp only at hSw); go_simp; try with_reducible rfl
  try simp only [List.getElem_toArray, List.getElem_cons_succ, List.getElem_cons_zero, Act.put, List.setIfInBounds_toArray, List.set_cons_zero, List.set_cons_succ]
  refine wpAnyH_take (i := 3) (v := ?_) rfl (by kernel_rfl) (by kernel_rfl) (by kernel_rfl) (fun _ _ _ h => h) (Or.inl ⟨by rfl, ?_⟩) (by assumption) ?_
  rotate_left
  · intro w9 hSw; (try dsimp only at hSw); go_simp; try with_reducible rfl
  try simp only [List.getElem_toArray, List.getElem_cons_succ, List.getElem_cons_zero, Act.put, List.setIfInBounds_toArray, List.set_cons_zero, List.set_cons_succ]
  refine wpAnyH_take (i := 4) (v := ?_) rfl (by kernel_rfl) (by kernel_rfl) (by kernel_rfl) (fun _ _ _ h => h) (Or.inl ⟨by rfl, ?_⟩) (by assumption) ?_
  rotate_left
  · intro w9 hSw; (try dsimp only at hSw); go_simp; try with_reducible rfl
  try simp only [List.getElem_toArray, List.getElem_cons_succ, List.getElem_cons_zero, Act.put, List.setIfInBounds_toArray, List.set_cons_zero, List.set_cons_succ]
  refine wpAnyH_ready (rs := [2]) (by kernel_rfl) (by simp) ?_
  refine AllReadyH.cons rfl (fun K hK => ?_) AllReadyH.nil
  clear hHeld
  go_simp
  refine (HAL.out _).mono ?_
  rintro e' v1 ⟨vA, rfl, hoA, hb⟩
  obtain ⟨aA, cA, rfl, hrA, _, _⟩ := hoA.slice
  have HRA := Lib.hid hrA
  clear hrA hoA
  have HCv1 := Lib.hid ((Below.refl w2.heap.size w2).drew.trans hb)
  have sv1 := HCv1.out.size
  clear hb
  have mv1_0 := cell_below HCv1.out x0_0 (by omega)
  have mv1_1 := cell_below HCv1.out x0_1 (by omega)
  refine hK.out _ _ ?_ (fun hHeld => ?_)
  · exact ⟨mv1_0, mv1_1⟩
  clear hK K
  try simp only [List.getElem_toArray, List.getElem_cons_succ, List.getElem_cons_zero, Act.put, List.setIfInBounds_toArray, List.set_cons_zero, List.set_cons_succ]
  refine wpAnyH_ready (rs := [5]) (by kernel_rfl) (by simp) ?_
  refine AllReadyH.cons rfl (fun K hK => ?_) AllReadyH.nil
  clear hHeld
  go_simp
  refine (HNR.out aA cA v1 HCv1.out HRA.out).mono ?_
  rintro e' v3 ⟨rfl, hb⟩
  have HCv3 := Lib.hid (HCv1.out.trans (hb.mono HCv1.out.size))
  have sv3 := HCv3.out.size
  clear hb
  have mv3_0 := cell_below HCv3.out x0_0 (by omega)
  have mv3_1 := cell_below HCv3.out x0_1 (by omega)
  refine hK.out _ _ ?_ (fun hHeld => ?_)
  · exact ⟨mv3_0, mv3_1⟩
  clear hK K
  try simp only [List.getElem_toArray, List.getElem_cons_succ, List.getElem_cons_zero, Act.put, List.setIfInBounds_toArray, List.set_cons_zero, List.set_cons_succ]
  refine wpAnyH_take (i := 6) (v := ?_) rfl (by kernel_rfl) (by kernel_rfl) (by kernel_rfl) (fun _ _ _ h => h) (Or.inl ⟨by rfl, ?_⟩) (by assumption) ?_
  rotate_left
  · intro w9 hSw; (try dsimp only at hSw); go_simp; try with_reducible rfl
  try simp only [List.getElem_toArray, List.getElem_cons_succ, List.getElem_cons_zero, Act.put, List.setIfInBounds_toArray, List.set_cons_zero, List.set_cons_succ]
  refine wpAnyH_take (i := 7) (v := ?_) rfl (by kernel_rfl) (by kernel_rfl) (by kernel_rfl) (fun _ _ _ h => h) (Or.inl ⟨by rfl, ?_⟩) (by assumption) ?_
  rotate_left
  · intro w9 hSw; (try dsimp only at hSw); go_simp; try with_reducible rfl
  try simp only [List.getElem_toArray, List.getElem_cons_succ, List.getElem_cons_zero, Act.put, List.setIfInBounds_toArray, List.set_cons_zero, List.set_cons_succ]
  refine wpAnyH_done (by kernel_rfl) ?_ _
  refine NoPanic.normal ?_
  go_wp2_with fail
  go_ret2
  exact ⟨rfl, HB2.out.trans (HCv3.out.mono (by omega))⟩
end Go.Proofs.Ytkbcofgigfnfaaa.neart
