/- The model's juries: their sides and mistakes. -/
import Derived.Test.YthohnnobahcdpaaWhere
import Derived.Test.YthohnnobahcdpaaPlaneSFns
import Derived.Test.YthohnnobahcdpaaSidesOf
import Derived.Test.YthohnnobahcdpaaOnes
import Derived.Test.YthohnnobahcdpaaRets
import Derived.Deep.RegionHeld3
import Derived.Deep.DrawnRows
import Derived.BigQuiet
namespace Go.Proofs.Ythohnnobahcdpaa.jurs
open Go.RowKit own pp nums pwh samplesv samplest planes dots both sides ones
set_option linter.unusedVariables false
set_option linter.unusedSimpArgs false

def juB (ps : List (List Int × Int)) (k : Nat) : Bool := planeB (ps.getD k ([], 0)).1 (ps.getD k ([], 0)).2 && decide ((ps.getD k ([], 0)).1.length = (ps.getD 0 ([], 0)).1.length)
def juryB (ps : List (List Int × Int)) : Bool := (List.range ps.length).all (juB ps) && (decide (1 ≤ (ps.length : Int)) && decide ((ps.length : Int) ≤ 9))
theorem juryB_iff (ps : List (List Int × Int)) : juryB ps = true ↔ (∀ k, k < ps.length → planeB (ps.getD k ([], 0)).1 (ps.getD k ([], 0)).2 = true ∧ (ps.getD k ([], 0)).1.length = (ps.getD 0 ([], 0)).1.length) ∧ 1 ≤ ps.length ∧ ps.length ≤ 9 := by
  unfold juryB juB
  simp only [Bool.and_eq_true, List.all_eq_true, List.mem_range, decide_eq_true_eq]
  constructor
  · rintro ⟨h1, h2, h3⟩; exact ⟨h1, by omega, by omega⟩
  · rintro ⟨h1, h2, h3⟩; exact ⟨h1, by omega, by omega⟩
/-- The sum of the sides of the first k planes. -/
def jsum (ps : List (List Int × Int)) (xs : List Int) : Nat → Int
  | 0 => 0
  | k + 1 => jsum ps xs k + side (ps.getD k ([], 0)).1 (ps.getD k ([], 0)).2 xs
def jside (ps : List (List Int × Int)) (xs : List Int) : Int := if 0 ≤ jsum ps xs ps.length then 1 else -1
theorem side_bd (ws : List Int) (b : Int) (xs : List Int) : -1 ≤ side ws b xs ∧ side ws b xs ≤ 1 := by unfold side; split <;> omega
theorem jsum_bd (ps : List (List Int × Int)) (xs : List Int) (k : Nat) : -(k : Int) ≤ jsum ps xs k ∧ jsum ps xs k ≤ k := by
  induction k with
  | zero => simp [jsum]
  | succ k ih =>
    have := side_bd (ps.getD k ([], 0)).1 (ps.getD k ([], 0)).2 xs
    unfold jsum
    omega
theorem all_no {p : Nat → Bool} {n k : Nat} (hk : k < n) (h : p k = false) : (List.range n).all p = false := by
  rw [List.all_eq_false]
  exact ⟨k, List.mem_range.2 hk, by rw [h]; simp⟩
theorem all_yes {p : Nat → Bool} {n : Nat} (h : ∀ j, j < n → p j = true) : (List.range n).all p = true := by
  rw [List.all_eq_true]
  intro j hj
  exact h j (List.mem_range.1 hj)

set_option maxRecDepth 100000 in
set_option maxHeartbeats 1600000 in
theorem spec_jury (x : Option Addr) (ps : List (List Int × Int)) (d : Nat) (w : World) (hx : ReadsJ w x ps) (hn : ps.length ≤ 1048576) (hw : ∀ k, k < ps.length → (ps.getD k ([], 0)).1.length ≤ 1048576) (ok : Bool) (h : Hid (juryB ps = ok)) :
    Calls Try.prog 86 #[.slice x ps.length d] w (RetB ok w) := by
  have HX := Lib.hid hx
  have HW := Lib.hid hw
  clear hx hw
  go_enter Try.func86, Try.ntmps86
  go_wp2_with fail
  go_loopw [3] (fun i wr => ∃ k : Nat, k ≤ ps.length ∧ i = .int .i64 k ∧ Hid (∀ j, j < k → juB ps j = true) ∧ Below w.heap.size w wr) (fun i _ => ps.length - (intOf i).toNat)
  case atStart => exact ⟨0, Nat.zero_le _, rfl, fun j hj => by omega, Below.refl _ _⟩
  case round =>
    obtain ⟨k, hk, rfl, hj, hbel⟩ := hrel
    have HBl := Lib.hid hbel
    have hsz := hbel.size
    by_cases hlt : k < ps.length
    · obtain ⟨g, go, p, q, hab, hbl, hc, hd, hpq, hrow⟩ := (HX.out.below hbel).at hlt
      subst hab
      obtain ⟨g', go', p0, q0, hab, _, hc0, _, _, _⟩ := (HX.out.below hbel).at (k := 0) (by omega)
      obtain ⟨rfl, rfl⟩ : g = g' ∧ go = go' := by cases hab; exact ⟨rfl, rfl⟩
      rw [Nat.zero_mul, Nat.add_zero] at hc0
      have hwl := HW.out k hlt
      have HJ0 := Lib.hid (show juB ps k = (planeB (ps.getD k ([], 0)).1 (ps.getD k ([], 0)).2 && decide ((ps.getD k ([], 0)).1.length = (ps.getD 0 ([], 0)).1.length)) from rfl)
      have HNO := Lib.hid (show juB ps k = false → ok = false from fun e => by rw [← h.out]; unfold juryB; rw [all_no hlt e, Bool.false_and])
      have HJN := Lib.hid (show juB ps k = true → ∀ j, j < k + 1 → juB ps j = true from fun e j hj9 => by
        by_cases e2 : j = k
        · rw [e2]; exact e
        · exact hj.out j (by omega))
      have HC := Lib.hid (show ∀ (wa : World), Below wr.heap.size wr wa → Calls Try.prog 106 #[.agg #[.slice p (ps.getD k ([], 0)).1.length q, .int .i64 (ps.getD k ([], 0)).2]] wa (RetB (planeB (ps.getD k ([], 0)).1 (ps.getD k ([], 0)).2) wa) from fun wa hB => spec_plane p _ q _ wa (hrow.below hB) hwl _ (Lib.hid rfl))
      have i1 : (0 : Int) ≤ (k : Int) := by omega
      have i2 : (k : Int) < (ps.length : Int) := by omega
      have i3 : (0 : Int) < (ps.length : Int) := by omega
      have i4 : 0 < ps.length := by omega
      clear hbel hrow hpq hab hj hwl
      generalize (ps.getD 0 ([], 0)).1.length = n0 at *
      generalize (ps.getD k ([], 0)).2 = b at *
      generalize (ps.getD k ([], 0)).1 = ws at *
      cases hp : planeB ws b
      · have e := HNO.out (by rw [HJ0.out, hp]; rfl)
        subst e
        rw [hp] at HC
        clear hp HNO HJN HJ0
        go_wp2_with fail
        refine wp_region_noPanic ?_
        refine wp_region_held_drew (S := fun w' => w'.cell? ⟨g, go + k * 2, none⟩ = some (.slice p ws.length q) ∧ w'.cell? ⟨g, go + k * 2 + 1, none⟩ = some (.int .i64 b) ∧ w'.cell? ⟨g, go, none⟩ = some (.slice p0 n0 q0)) (by kernel_rfl) ?_ (fun hHeld => ?_)
        · exact ⟨hc, hd, hc0⟩
        refine wpAnyH_take (i := 0) (v := ?_) rfl (by kernel_rfl) (by kernel_rfl) (by kernel_rfl) (fun _ _ _ h => h) (Or.inl ⟨by rfl, ?_⟩) (by assumption) ?_
        rotate_left
        · intro w9 hSw; (try dsimp only at hSw); go_simp; try with_reducible rfl
        try simp only [List.getElem_toArray, List.getElem_cons_succ, List.getElem_cons_zero, Act.put, List.setIfInBounds_toArray, List.set_cons_zero, List.set_cons_succ]
        refine wpAnyH_take (i := 1) (v := ?_) rfl (by kernel_rfl) (by kernel_rfl) (by kernel_rfl) (fun _ _ _ h => h) (Or.inl ⟨by rfl, ?_⟩) (by assumption) ?_
        rotate_left
        · intro w9 hSw; (try dsimp only at hSw); go_simp; try with_reducible rfl
        try simp only [List.getElem_toArray, List.getElem_cons_succ, List.getElem_cons_zero, Act.put, List.setIfInBounds_toArray, List.set_cons_zero, List.set_cons_succ]
        refine wpAnyH_take (i := 2) (v := ?_) rfl (by kernel_rfl) (by kernel_rfl) (by kernel_rfl) (fun _ _ _ h => h) (Or.inl ⟨by rfl, ?_⟩) (by assumption) ?_
        rotate_left
        · intro w9 hSw; (try dsimp only at hSw); go_simp; try with_reducible rfl
        try simp only [List.getElem_toArray, List.getElem_cons_succ, List.getElem_cons_zero, Act.put, List.setIfInBounds_toArray, List.set_cons_zero, List.set_cons_succ]
        refine wpAnyH_take (i := 3) (v := ?_) rfl (by kernel_rfl) (by kernel_rfl) (by kernel_rfl) (fun _ _ _ h => h) (Or.inl ⟨by rfl, ?_⟩) (by assumption) ?_
        rotate_left
        · intro w9 hSw; (try dsimp only at hSw); go_simp; try with_reducible rfl
        try simp only [List.getElem_toArray, List.getElem_cons_succ, List.getElem_cons_zero, Act.put, List.setIfInBounds_toArray, List.set_cons_zero, List.set_cons_succ]
        refine wpAnyH_ready (rs := [4]) (by kernel_rfl) (by simp) ?_
        refine AllReadyH.cons rfl (fun K hK => ?_) AllReadyH.nil
        clear hHeld
        go_simp
        refine (HC.out _ (Below.refl _ _).drew).mono ?_
        rintro e v1 ⟨rfl, hb1⟩
        have HB1 := Lib.hid ((Below.refl wr.heap.size wr).drew.trans hb1)
        have hs1 := hb1.size
        have kc := cell_below HB1.out hc (by omega)
        have kd := cell_below HB1.out hd (by omega)
        have kc0 := cell_below HB1.out hc0 (by omega)
        clear hb1
        refine hK.out _ _ ?_ (fun hHeld => ?_)
        · exact ⟨kc, kd, kc0⟩
        clear hK K
        try simp only [List.getElem_toArray, List.getElem_cons_succ, List.getElem_cons_zero, Act.put, List.setIfInBounds_toArray, List.set_cons_zero, List.set_cons_succ]
        refine wpAnyH_take (i := 5) (v := ?_) rfl (by kernel_rfl) (by kernel_rfl) (by kernel_rfl) (fun _ _ _ h => h) (Or.inl ⟨by rfl, ?_⟩) (by assumption) ?_
        rotate_left
        · intro w9 hSw; (try dsimp only at hSw); go_simp; try with_reducible rfl
        try simp only [List.getElem_toArray, List.getElem_cons_succ, List.getElem_cons_zero, Act.put, List.setIfInBounds_toArray, List.set_cons_zero, List.set_cons_succ]
        refine wpAnyH_take (i := 6) (v := ?_) rfl (by kernel_rfl) (by kernel_rfl) (by kernel_rfl) (fun _ _ _ h => h) (Or.inl ⟨by rfl, ?_⟩) (by assumption) ?_
        rotate_left
        · intro w9 hSw; (try dsimp only at hSw); go_simp; try with_reducible rfl
        try simp only [List.getElem_toArray, List.getElem_cons_succ, List.getElem_cons_zero, Act.put, List.setIfInBounds_toArray, List.set_cons_zero, List.set_cons_succ]
        refine wpAnyH_take (i := 7) (v := undef) rfl (by kernel_rfl) (by kernel_rfl) (by kernel_rfl) (fun _ _ _ h => h) (Or.inr ⟨by rfl, rfl⟩) (by assumption) ?_
        try simp only [List.getElem_toArray, List.getElem_cons_succ, List.getElem_cons_zero, Act.put, List.setIfInBounds_toArray, List.set_cons_zero, List.set_cons_succ]
        refine wpAnyH_take (i := 8) (v := undef) rfl (by kernel_rfl) (by kernel_rfl) (by kernel_rfl) (fun _ _ _ h => h) (Or.inr ⟨by rfl, rfl⟩) (by assumption) ?_
        try simp only [List.getElem_toArray, List.getElem_cons_succ, List.getElem_cons_zero, Act.put, List.setIfInBounds_toArray, List.set_cons_zero, List.set_cons_succ]
        refine wpAnyH_take (i := 9) (v := undef) rfl (by kernel_rfl) (by kernel_rfl) (by kernel_rfl) (fun _ _ _ h => h) (Or.inr ⟨by rfl, rfl⟩) (by assumption) ?_
        try simp only [List.getElem_toArray, List.getElem_cons_succ, List.getElem_cons_zero, Act.put, List.setIfInBounds_toArray, List.set_cons_zero, List.set_cons_succ]
        refine wpAnyH_take (i := 10) (v := undef) rfl (by kernel_rfl) (by kernel_rfl) (by kernel_rfl) (fun _ _ _ h => h) (Or.inr ⟨by rfl, rfl⟩) (by assumption) ?_
        try simp only [List.getElem_toArray, List.getElem_cons_succ, List.getElem_cons_zero, Act.put, List.setIfInBounds_toArray, List.set_cons_zero, List.set_cons_succ]
        refine wpAnyH_take (i := 11) (v := undef) rfl (by kernel_rfl) (by kernel_rfl) (by kernel_rfl) (fun _ _ _ h => h) (Or.inr ⟨by rfl, rfl⟩) (by assumption) ?_
        try simp only [List.getElem_toArray, List.getElem_cons_succ, List.getElem_cons_zero, Act.put, List.setIfInBounds_toArray, List.set_cons_zero, List.set_cons_succ]
        refine wpAnyH_take (i := 12) (v := undef) rfl (by kernel_rfl) (by kernel_rfl) (by kernel_rfl) (fun _ _ _ h => h) (Or.inr ⟨by rfl, rfl⟩) (by assumption) ?_
        try simp only [List.getElem_toArray, List.getElem_cons_succ, List.getElem_cons_zero, Act.put, List.setIfInBounds_toArray, List.set_cons_zero, List.set_cons_succ]
        refine wpAnyH_take (i := 13) (v := undef) rfl (by kernel_rfl) (by kernel_rfl) (by kernel_rfl) (fun _ _ _ h => h) (Or.inr ⟨by rfl, rfl⟩) (by assumption) ?_
        try simp only [List.getElem_toArray, List.getElem_cons_succ, List.getElem_cons_zero, Act.put, List.setIfInBounds_toArray, List.set_cons_zero, List.set_cons_succ]
        refine wpAnyH_take (i := 14) (v := undef) rfl (by kernel_rfl) (by kernel_rfl) (by kernel_rfl) (fun _ _ _ h => h) (Or.inr ⟨by rfl, rfl⟩) (by assumption) ?_
        try simp only [List.getElem_toArray, List.getElem_cons_succ, List.getElem_cons_zero, Act.put, List.setIfInBounds_toArray, List.set_cons_zero, List.set_cons_succ]
        refine wpAnyH_take (i := 15) (v := undef) rfl (by kernel_rfl) (by kernel_rfl) (by kernel_rfl) (fun _ _ _ h => h) (Or.inr ⟨by rfl, rfl⟩) (by assumption) ?_
        try simp only [List.getElem_toArray, List.getElem_cons_succ, List.getElem_cons_zero, Act.put, List.setIfInBounds_toArray, List.set_cons_zero, List.set_cons_succ]
        refine wpAnyH_take (i := 16) (v := undef) rfl (by kernel_rfl) (by kernel_rfl) (by kernel_rfl) (fun _ _ _ h => h) (Or.inr ⟨by rfl, rfl⟩) (by assumption) ?_
        try simp only [List.getElem_toArray, List.getElem_cons_succ, List.getElem_cons_zero, Act.put, List.setIfInBounds_toArray, List.set_cons_zero, List.set_cons_succ]
        refine wpAnyH_take (i := 17) (v := undef) rfl (by kernel_rfl) (by kernel_rfl) (by kernel_rfl) (fun _ _ _ h => h) (Or.inr ⟨by rfl, rfl⟩) (by assumption) ?_
        try simp only [List.getElem_toArray, List.getElem_cons_succ, List.getElem_cons_zero, Act.put, List.setIfInBounds_toArray, List.set_cons_zero, List.set_cons_succ]
        refine wpAnyH_take (i := 18) (v := undef) rfl (by kernel_rfl) (by kernel_rfl) (by kernel_rfl) (fun _ _ _ h => h) (Or.inr ⟨by rfl, rfl⟩) (by assumption) ?_
        try simp only [List.getElem_toArray, List.getElem_cons_succ, List.getElem_cons_zero, Act.put, List.setIfInBounds_toArray, List.set_cons_zero, List.set_cons_succ]
        refine wpAnyH_take (i := 19) (v := ?_) rfl (by kernel_rfl) (by kernel_rfl) (by kernel_rfl) (fun _ _ _ h => h) (Or.inl ⟨by rfl, ?_⟩) (by assumption) ?_
        rotate_left
        · intro w9 hSw; (try dsimp only at hSw); go_simp; try with_reducible rfl
        try simp only [List.getElem_toArray, List.getElem_cons_succ, List.getElem_cons_zero, Act.put, List.setIfInBounds_toArray, List.set_cons_zero, List.set_cons_succ]
        refine wpAnyH_done (by kernel_rfl) ?_ _
        refine NoPanic.normal ?_
        clear hHeld
        go_wp2_with fail
        go_ret
        exact ⟨rfl, HBl.out.trans (HB1.out.mono hsz)⟩
      · rw [hp] at HC
        by_cases hne : ws.length = n0
        · have HJ2 := Lib.hid (HJN.out (by rw [HJ0.out, hp, hne]; simp))
          have gg : ((ws.length : Int) != (n0 : Int)) = false := by rw [hne]; simp
          clear hp HNO HJN HJ0 hne
          go_wp2_with fail
          refine wp_region_noPanic ?_
          refine wp_region_held_drew (S := fun w' => w'.cell? ⟨g, go + k * 2, none⟩ = some (.slice p ws.length q) ∧ w'.cell? ⟨g, go + k * 2 + 1, none⟩ = some (.int .i64 b) ∧ w'.cell? ⟨g, go, none⟩ = some (.slice p0 n0 q0)) (by kernel_rfl) ?_ (fun hHeld => ?_)
          · exact ⟨hc, hd, hc0⟩
          refine wpAnyH_take (i := 0) (v := ?_) rfl (by kernel_rfl) (by kernel_rfl) (by kernel_rfl) (fun _ _ _ h => h) (Or.inl ⟨by rfl, ?_⟩) (by assumption) ?_
          rotate_left
          · intro w9 hSw; (try dsimp only at hSw); go_simp; try with_reducible rfl
          try simp only [List.getElem_toArray, List.getElem_cons_succ, List.getElem_cons_zero, Act.put, List.setIfInBounds_toArray, List.set_cons_zero, List.set_cons_succ]
          refine wpAnyH_take (i := 1) (v := ?_) rfl (by kernel_rfl) (by kernel_rfl) (by kernel_rfl) (fun _ _ _ h => h) (Or.inl ⟨by rfl, ?_⟩) (by assumption) ?_
          rotate_left
          · intro w9 hSw; (try dsimp only at hSw); go_simp; try with_reducible rfl
          try simp only [List.getElem_toArray, List.getElem_cons_succ, List.getElem_cons_zero, Act.put, List.setIfInBounds_toArray, List.set_cons_zero, List.set_cons_succ]
          refine wpAnyH_take (i := 2) (v := ?_) rfl (by kernel_rfl) (by kernel_rfl) (by kernel_rfl) (fun _ _ _ h => h) (Or.inl ⟨by rfl, ?_⟩) (by assumption) ?_
          rotate_left
          · intro w9 hSw; (try dsimp only at hSw); go_simp; try with_reducible rfl
          try simp only [List.getElem_toArray, List.getElem_cons_succ, List.getElem_cons_zero, Act.put, List.setIfInBounds_toArray, List.set_cons_zero, List.set_cons_succ]
          refine wpAnyH_take (i := 3) (v := ?_) rfl (by kernel_rfl) (by kernel_rfl) (by kernel_rfl) (fun _ _ _ h => h) (Or.inl ⟨by rfl, ?_⟩) (by assumption) ?_
          rotate_left
          · intro w9 hSw; (try dsimp only at hSw); go_simp; try with_reducible rfl
          try simp only [List.getElem_toArray, List.getElem_cons_succ, List.getElem_cons_zero, Act.put, List.setIfInBounds_toArray, List.set_cons_zero, List.set_cons_succ]
          refine wpAnyH_ready (rs := [4]) (by kernel_rfl) (by simp) ?_
          refine AllReadyH.cons rfl (fun K hK => ?_) AllReadyH.nil
          clear hHeld
          go_simp
          refine (HC.out _ (Below.refl _ _).drew).mono ?_
          rintro e v1 ⟨rfl, hb1⟩
          have HB1 := Lib.hid ((Below.refl wr.heap.size wr).drew.trans hb1)
          have hs1 := hb1.size
          have kc := cell_below HB1.out hc (by omega)
          have kd := cell_below HB1.out hd (by omega)
          have kc0 := cell_below HB1.out hc0 (by omega)
          clear hb1
          refine hK.out _ _ ?_ (fun hHeld => ?_)
          · exact ⟨kc, kd, kc0⟩
          clear hK K
          try simp only [List.getElem_toArray, List.getElem_cons_succ, List.getElem_cons_zero, Act.put, List.setIfInBounds_toArray, List.set_cons_zero, List.set_cons_succ]
          refine wpAnyH_take (i := 5) (v := ?_) rfl (by kernel_rfl) (by kernel_rfl) (by kernel_rfl) (fun _ _ _ h => h) (Or.inl ⟨by rfl, ?_⟩) (by assumption) ?_
          rotate_left
          · intro w9 hSw; (try dsimp only at hSw); go_simp; try with_reducible rfl
          try simp only [List.getElem_toArray, List.getElem_cons_succ, List.getElem_cons_zero, Act.put, List.setIfInBounds_toArray, List.set_cons_zero, List.set_cons_succ]
          refine wpAnyH_take (i := 6) (v := ?_) rfl (by kernel_rfl) (by kernel_rfl) (by kernel_rfl) (fun _ _ _ h => h) (Or.inl ⟨by rfl, ?_⟩) (by assumption) ?_
          rotate_left
          · intro w9 hSw; (try dsimp only at hSw); go_simp; try with_reducible rfl
          try simp only [List.getElem_toArray, List.getElem_cons_succ, List.getElem_cons_zero, Act.put, List.setIfInBounds_toArray, List.set_cons_zero, List.set_cons_succ]
          refine wpAnyH_take (i := 7) (v := ?_) rfl (by kernel_rfl) (by kernel_rfl) (by kernel_rfl) (fun _ _ _ h => h) (Or.inl ⟨by rfl, ?_⟩) (by assumption) ?_
          rotate_left
          · intro w9 hSw; (try dsimp only at hSw); go_simp; try with_reducible rfl
          try simp only [List.getElem_toArray, List.getElem_cons_succ, List.getElem_cons_zero, Act.put, List.setIfInBounds_toArray, List.set_cons_zero, List.set_cons_succ]
          refine wpAnyH_take (i := 8) (v := ?_) rfl (by kernel_rfl) (by kernel_rfl) (by kernel_rfl) (fun _ _ _ h => h) (Or.inl ⟨by rfl, ?_⟩) (by assumption) ?_
          rotate_left
          · intro w9 hSw; (try dsimp only at hSw); go_simp; try with_reducible rfl
          try simp only [List.getElem_toArray, List.getElem_cons_succ, List.getElem_cons_zero, Act.put, List.setIfInBounds_toArray, List.set_cons_zero, List.set_cons_succ]
          refine wpAnyH_take (i := 9) (v := ?_) rfl (by kernel_rfl) (by kernel_rfl) (by kernel_rfl) (fun _ _ _ h => h) (Or.inl ⟨by rfl, ?_⟩) (by assumption) ?_
          rotate_left
          · intro w9 hSw; (try dsimp only at hSw); go_simp; try with_reducible rfl
          try simp only [List.getElem_toArray, List.getElem_cons_succ, List.getElem_cons_zero, Act.put, List.setIfInBounds_toArray, List.set_cons_zero, List.set_cons_succ]
          refine wpAnyH_take (i := 10) (v := ?_) rfl (by kernel_rfl) (by kernel_rfl) (by kernel_rfl) (fun _ _ _ h => h) (Or.inl ⟨by rfl, ?_⟩) (by assumption) ?_
          rotate_left
          · intro w9 hSw; (try dsimp only at hSw); go_simp; try with_reducible rfl
          try simp only [List.getElem_toArray, List.getElem_cons_succ, List.getElem_cons_zero, Act.put, List.setIfInBounds_toArray, List.set_cons_zero, List.set_cons_succ]
          refine wpAnyH_take (i := 11) (v := ?_) rfl (by kernel_rfl) (by kernel_rfl) (by kernel_rfl) (fun _ _ _ h => h) (Or.inl ⟨by rfl, ?_⟩) (by assumption) ?_
          rotate_left
          · intro w9 hSw; (try dsimp only at hSw); go_simp; try with_reducible rfl
          try simp only [List.getElem_toArray, List.getElem_cons_succ, List.getElem_cons_zero, Act.put, List.setIfInBounds_toArray, List.set_cons_zero, List.set_cons_succ]
          refine wpAnyH_take (i := 12) (v := ?_) rfl (by kernel_rfl) (by kernel_rfl) (by kernel_rfl) (fun _ _ _ h => h) (Or.inl ⟨by rfl, ?_⟩) (by assumption) ?_
          rotate_left
          · intro w9 hSw; (try dsimp only at hSw); go_simp; try with_reducible rfl
          try simp only [List.getElem_toArray, List.getElem_cons_succ, List.getElem_cons_zero, Act.put, List.setIfInBounds_toArray, List.set_cons_zero, List.set_cons_succ]
          refine wpAnyH_take (i := 13) (v := ?_) rfl (by kernel_rfl) (by kernel_rfl) (by kernel_rfl) (fun _ _ _ h => h) (Or.inl ⟨by rfl, ?_⟩) (by assumption) ?_
          rotate_left
          · intro w9 hSw; (try dsimp only at hSw); go_simp; try with_reducible rfl
          try simp only [List.getElem_toArray, List.getElem_cons_succ, List.getElem_cons_zero, Act.put, List.setIfInBounds_toArray, List.set_cons_zero, List.set_cons_succ]
          refine wpAnyH_take (i := 14) (v := ?_) rfl (by kernel_rfl) (by kernel_rfl) (by kernel_rfl) (fun _ _ _ h => h) (Or.inl ⟨by rfl, ?_⟩) (by assumption) ?_
          rotate_left
          · intro w9 hSw; (try dsimp only at hSw); go_simp; try with_reducible rfl
          try simp only [List.getElem_toArray, List.getElem_cons_succ, List.getElem_cons_zero, Act.put, List.setIfInBounds_toArray, List.set_cons_zero, List.set_cons_succ]
          refine wpAnyH_take (i := 15) (v := ?_) rfl (by kernel_rfl) (by kernel_rfl) (by kernel_rfl) (fun _ _ _ h => h) (Or.inl ⟨by rfl, ?_⟩) (by assumption) ?_
          rotate_left
          · intro w9 hSw; (try dsimp only at hSw); go_simp; try with_reducible rfl
          try simp only [List.getElem_toArray, List.getElem_cons_succ, List.getElem_cons_zero, Act.put, List.setIfInBounds_toArray, List.set_cons_zero, List.set_cons_succ]
          refine wpAnyH_take (i := 16) (v := ?_) rfl (by kernel_rfl) (by kernel_rfl) (by kernel_rfl) (fun _ _ _ h => h) (Or.inl ⟨by rfl, ?_⟩) (by assumption) ?_
          rotate_left
          · intro w9 hSw; (try dsimp only at hSw); go_simp; try with_reducible rfl
          try simp only [List.getElem_toArray, List.getElem_cons_succ, List.getElem_cons_zero, Act.put, List.setIfInBounds_toArray, List.set_cons_zero, List.set_cons_succ]
          refine wpAnyH_take (i := 17) (v := ?_) rfl (by kernel_rfl) (by kernel_rfl) (by kernel_rfl) (fun _ _ _ h => h) (Or.inl ⟨by rfl, ?_⟩) (by assumption) ?_
          rotate_left
          · intro w9 hSw; (try dsimp only at hSw); go_simp; try with_reducible rfl
          try simp only [List.getElem_toArray, List.getElem_cons_succ, List.getElem_cons_zero, Act.put, List.setIfInBounds_toArray, List.set_cons_zero, List.set_cons_succ]
          refine wpAnyH_take (i := 18) (v := ?_) rfl (by kernel_rfl) (by kernel_rfl) (by kernel_rfl) (fun _ _ _ h => h) (Or.inl ⟨by rfl, ?_⟩) (by assumption) ?_
          rotate_left
          · intro w9 hSw; (try dsimp only at hSw); go_simp; try with_reducible rfl
          try simp only [List.getElem_toArray, List.getElem_cons_succ, List.getElem_cons_zero, Act.put, List.setIfInBounds_toArray, List.set_cons_zero, List.set_cons_succ]
          refine wpAnyH_take (i := 19) (v := ?_) rfl (by kernel_rfl) (by kernel_rfl) (by kernel_rfl) (fun _ _ _ h => h) (Or.inl ⟨by rfl, ?_⟩) (by assumption) ?_
          rotate_left
          · intro w9 hSw; (try dsimp only at hSw); go_simp; try with_reducible rfl
          try simp only [List.getElem_toArray, List.getElem_cons_succ, List.getElem_cons_zero, Act.put, List.setIfInBounds_toArray, List.set_cons_zero, List.set_cons_succ]
          refine wpAnyH_done (by kernel_rfl) ?_ _
          refine NoPanic.normal ?_
          clear hHeld
          go_wp2_with fail
          go_roundw
          case rel => exact ⟨k + 1, by omega, by go_num, HJ2, HBl.out.trans (HB1.out.mono hsz)⟩
          case measure => simp [intOf]; omega
        · have e := HNO.out (by rw [HJ0.out, hp]; simp; omega)
          subst e
          have gg : ((ws.length : Int) != (n0 : Int)) = true := by simp; omega
          clear hp HNO HJN HJ0 hne
          go_wp2_with fail
          refine wp_region_noPanic ?_
          refine wp_region_held_drew (S := fun w' => w'.cell? ⟨g, go + k * 2, none⟩ = some (.slice p ws.length q) ∧ w'.cell? ⟨g, go + k * 2 + 1, none⟩ = some (.int .i64 b) ∧ w'.cell? ⟨g, go, none⟩ = some (.slice p0 n0 q0)) (by kernel_rfl) ?_ (fun hHeld => ?_)
          · exact ⟨hc, hd, hc0⟩
          refine wpAnyH_take (i := 0) (v := ?_) rfl (by kernel_rfl) (by kernel_rfl) (by kernel_rfl) (fun _ _ _ h => h) (Or.inl ⟨by rfl, ?_⟩) (by assumption) ?_
          rotate_left
          · intro w9 hSw; (try dsimp only at hSw); go_simp; try with_reducible rfl
          try simp only [List.getElem_toArray, List.getElem_cons_succ, List.getElem_cons_zero, Act.put, List.setIfInBounds_toArray, List.set_cons_zero, List.set_cons_succ]
          refine wpAnyH_take (i := 1) (v := ?_) rfl (by kernel_rfl) (by kernel_rfl) (by kernel_rfl) (fun _ _ _ h => h) (Or.inl ⟨by rfl, ?_⟩) (by assumption) ?_
          rotate_left
          · intro w9 hSw; (try dsimp only at hSw); go_simp; try with_reducible rfl
          try simp only [List.getElem_toArray, List.getElem_cons_succ, List.getElem_cons_zero, Act.put, List.setIfInBounds_toArray, List.set_cons_zero, List.set_cons_succ]
          refine wpAnyH_take (i := 2) (v := ?_) rfl (by kernel_rfl) (by kernel_rfl) (by kernel_rfl) (fun _ _ _ h => h) (Or.inl ⟨by rfl, ?_⟩) (by assumption) ?_
          rotate_left
          · intro w9 hSw; (try dsimp only at hSw); go_simp; try with_reducible rfl
          try simp only [List.getElem_toArray, List.getElem_cons_succ, List.getElem_cons_zero, Act.put, List.setIfInBounds_toArray, List.set_cons_zero, List.set_cons_succ]
          refine wpAnyH_take (i := 3) (v := ?_) rfl (by kernel_rfl) (by kernel_rfl) (by kernel_rfl) (fun _ _ _ h => h) (Or.inl ⟨by rfl, ?_⟩) (by assumption) ?_
          rotate_left
          · intro w9 hSw; (try dsimp only at hSw); go_simp; try with_reducible rfl
          try simp only [List.getElem_toArray, List.getElem_cons_succ, List.getElem_cons_zero, Act.put, List.setIfInBounds_toArray, List.set_cons_zero, List.set_cons_succ]
          refine wpAnyH_ready (rs := [4]) (by kernel_rfl) (by simp) ?_
          refine AllReadyH.cons rfl (fun K hK => ?_) AllReadyH.nil
          clear hHeld
          go_simp
          refine (HC.out _ (Below.refl _ _).drew).mono ?_
          rintro e v1 ⟨rfl, hb1⟩
          have HB1 := Lib.hid ((Below.refl wr.heap.size wr).drew.trans hb1)
          have hs1 := hb1.size
          have kc := cell_below HB1.out hc (by omega)
          have kd := cell_below HB1.out hd (by omega)
          have kc0 := cell_below HB1.out hc0 (by omega)
          clear hb1
          refine hK.out _ _ ?_ (fun hHeld => ?_)
          · exact ⟨kc, kd, kc0⟩
          clear hK K
          try simp only [List.getElem_toArray, List.getElem_cons_succ, List.getElem_cons_zero, Act.put, List.setIfInBounds_toArray, List.set_cons_zero, List.set_cons_succ]
          refine wpAnyH_take (i := 5) (v := ?_) rfl (by kernel_rfl) (by kernel_rfl) (by kernel_rfl) (fun _ _ _ h => h) (Or.inl ⟨by rfl, ?_⟩) (by assumption) ?_
          rotate_left
          · intro w9 hSw; (try dsimp only at hSw); go_simp; try with_reducible rfl
          try simp only [List.getElem_toArray, List.getElem_cons_succ, List.getElem_cons_zero, Act.put, List.setIfInBounds_toArray, List.set_cons_zero, List.set_cons_succ]
          refine wpAnyH_take (i := 6) (v := ?_) rfl (by kernel_rfl) (by kernel_rfl) (by kernel_rfl) (fun _ _ _ h => h) (Or.inl ⟨by rfl, ?_⟩) (by assumption) ?_
          rotate_left
          · intro w9 hSw; (try dsimp only at hSw); go_simp; try with_reducible rfl
          try simp only [List.getElem_toArray, List.getElem_cons_succ, List.getElem_cons_zero, Act.put, List.setIfInBounds_toArray, List.set_cons_zero, List.set_cons_succ]
          refine wpAnyH_take (i := 7) (v := ?_) rfl (by kernel_rfl) (by kernel_rfl) (by kernel_rfl) (fun _ _ _ h => h) (Or.inl ⟨by rfl, ?_⟩) (by assumption) ?_
          rotate_left
          · intro w9 hSw; (try dsimp only at hSw); go_simp; try with_reducible rfl
          try simp only [List.getElem_toArray, List.getElem_cons_succ, List.getElem_cons_zero, Act.put, List.setIfInBounds_toArray, List.set_cons_zero, List.set_cons_succ]
          refine wpAnyH_take (i := 8) (v := ?_) rfl (by kernel_rfl) (by kernel_rfl) (by kernel_rfl) (fun _ _ _ h => h) (Or.inl ⟨by rfl, ?_⟩) (by assumption) ?_
          rotate_left
          · intro w9 hSw; (try dsimp only at hSw); go_simp; try with_reducible rfl
          try simp only [List.getElem_toArray, List.getElem_cons_succ, List.getElem_cons_zero, Act.put, List.setIfInBounds_toArray, List.set_cons_zero, List.set_cons_succ]
          refine wpAnyH_take (i := 9) (v := ?_) rfl (by kernel_rfl) (by kernel_rfl) (by kernel_rfl) (fun _ _ _ h => h) (Or.inl ⟨by rfl, ?_⟩) (by assumption) ?_
          rotate_left
          · intro w9 hSw; (try dsimp only at hSw); go_simp; try with_reducible rfl
          try simp only [List.getElem_toArray, List.getElem_cons_succ, List.getElem_cons_zero, Act.put, List.setIfInBounds_toArray, List.set_cons_zero, List.set_cons_succ]
          refine wpAnyH_take (i := 10) (v := ?_) rfl (by kernel_rfl) (by kernel_rfl) (by kernel_rfl) (fun _ _ _ h => h) (Or.inl ⟨by rfl, ?_⟩) (by assumption) ?_
          rotate_left
          · intro w9 hSw; (try dsimp only at hSw); go_simp; try with_reducible rfl
          try simp only [List.getElem_toArray, List.getElem_cons_succ, List.getElem_cons_zero, Act.put, List.setIfInBounds_toArray, List.set_cons_zero, List.set_cons_succ]
          refine wpAnyH_take (i := 11) (v := ?_) rfl (by kernel_rfl) (by kernel_rfl) (by kernel_rfl) (fun _ _ _ h => h) (Or.inl ⟨by rfl, ?_⟩) (by assumption) ?_
          rotate_left
          · intro w9 hSw; (try dsimp only at hSw); go_simp; try with_reducible rfl
          try simp only [List.getElem_toArray, List.getElem_cons_succ, List.getElem_cons_zero, Act.put, List.setIfInBounds_toArray, List.set_cons_zero, List.set_cons_succ]
          refine wpAnyH_take (i := 12) (v := ?_) rfl (by kernel_rfl) (by kernel_rfl) (by kernel_rfl) (fun _ _ _ h => h) (Or.inl ⟨by rfl, ?_⟩) (by assumption) ?_
          rotate_left
          · intro w9 hSw; (try dsimp only at hSw); go_simp; try with_reducible rfl
          try simp only [List.getElem_toArray, List.getElem_cons_succ, List.getElem_cons_zero, Act.put, List.setIfInBounds_toArray, List.set_cons_zero, List.set_cons_succ]
          refine wpAnyH_take (i := 13) (v := ?_) rfl (by kernel_rfl) (by kernel_rfl) (by kernel_rfl) (fun _ _ _ h => h) (Or.inl ⟨by rfl, ?_⟩) (by assumption) ?_
          rotate_left
          · intro w9 hSw; (try dsimp only at hSw); go_simp; try with_reducible rfl
          try simp only [List.getElem_toArray, List.getElem_cons_succ, List.getElem_cons_zero, Act.put, List.setIfInBounds_toArray, List.set_cons_zero, List.set_cons_succ]
          refine wpAnyH_take (i := 14) (v := ?_) rfl (by kernel_rfl) (by kernel_rfl) (by kernel_rfl) (fun _ _ _ h => h) (Or.inl ⟨by rfl, ?_⟩) (by assumption) ?_
          rotate_left
          · intro w9 hSw; (try dsimp only at hSw); go_simp; try with_reducible rfl
          try simp only [List.getElem_toArray, List.getElem_cons_succ, List.getElem_cons_zero, Act.put, List.setIfInBounds_toArray, List.set_cons_zero, List.set_cons_succ]
          refine wpAnyH_take (i := 15) (v := ?_) rfl (by kernel_rfl) (by kernel_rfl) (by kernel_rfl) (fun _ _ _ h => h) (Or.inl ⟨by rfl, ?_⟩) (by assumption) ?_
          rotate_left
          · intro w9 hSw; (try dsimp only at hSw); go_simp; try with_reducible rfl
          try simp only [List.getElem_toArray, List.getElem_cons_succ, List.getElem_cons_zero, Act.put, List.setIfInBounds_toArray, List.set_cons_zero, List.set_cons_succ]
          refine wpAnyH_take (i := 16) (v := ?_) rfl (by kernel_rfl) (by kernel_rfl) (by kernel_rfl) (fun _ _ _ h => h) (Or.inl ⟨by rfl, ?_⟩) (by assumption) ?_
          rotate_left
          · intro w9 hSw; (try dsimp only at hSw); go_simp; try with_reducible rfl
          try simp only [List.getElem_toArray, List.getElem_cons_succ, List.getElem_cons_zero, Act.put, List.setIfInBounds_toArray, List.set_cons_zero, List.set_cons_succ]
          refine wpAnyH_take (i := 17) (v := ?_) rfl (by kernel_rfl) (by kernel_rfl) (by kernel_rfl) (fun _ _ _ h => h) (Or.inl ⟨by rfl, ?_⟩) (by assumption) ?_
          rotate_left
          · intro w9 hSw; (try dsimp only at hSw); go_simp; try with_reducible rfl
          try simp only [List.getElem_toArray, List.getElem_cons_succ, List.getElem_cons_zero, Act.put, List.setIfInBounds_toArray, List.set_cons_zero, List.set_cons_succ]
          refine wpAnyH_take (i := 18) (v := ?_) rfl (by kernel_rfl) (by kernel_rfl) (by kernel_rfl) (fun _ _ _ h => h) (Or.inl ⟨by rfl, ?_⟩) (by assumption) ?_
          rotate_left
          · intro w9 hSw; (try dsimp only at hSw); go_simp; try with_reducible rfl
          try simp only [List.getElem_toArray, List.getElem_cons_succ, List.getElem_cons_zero, Act.put, List.setIfInBounds_toArray, List.set_cons_zero, List.set_cons_succ]
          refine wpAnyH_take (i := 19) (v := ?_) rfl (by kernel_rfl) (by kernel_rfl) (by kernel_rfl) (fun _ _ _ h => h) (Or.inl ⟨by rfl, ?_⟩) (by assumption) ?_
          rotate_left
          · intro w9 hSw; (try dsimp only at hSw); go_simp; try with_reducible rfl
          try simp only [List.getElem_toArray, List.getElem_cons_succ, List.getElem_cons_zero, Act.put, List.setIfInBounds_toArray, List.set_cons_zero, List.set_cons_succ]
          refine wpAnyH_done (by kernel_rfl) ?_ _
          refine NoPanic.normal ?_
          clear hHeld
          go_wp2_with fail
          go_ret
          exact ⟨rfl, HBl.out.trans (HB1.out.mono hsz)⟩
    · have hke : k = ps.length := by omega
      have HI := Lib.hid (show (decide (1 ≤ (ps.length : Int)) && decide ((ps.length : Int) ≤ 9)) = ok by
        rw [← h.out]; unfold juryB; rw [all_yes (fun j hj' => hj.out j (by omega)), Bool.true_and])
      clear h hj hbel hke
      go_wp2_with fail
      refine (in_any _ _ _ _ ok HI).mono ?_
      rintro e w' ⟨rfl, rfl⟩
      go_wp2_with fail
      go_ret
      exact ⟨rfl, HBl.out⟩
set_option maxRecDepth 100000 in
set_option maxHeartbeats 1600000 in
theorem spec_jside (x : Option Addr) (ps : List (List Int × Int)) (d : Nat) (y : Option Addr) (xs : List Int) (q : Nat) (w : World) (hx : ReadsJ w x ps) (hy : ints.Reads .i64 w y xs) (hF : ∀ k, k < ps.length → (ps.getD k ([], 0)).1.length = xs.length ∧ Small (ps.getD k ([], 0)).1 xs) (h4 : xs.length ≤ 4) (h9 : ps.length ≤ 9) :
    Calls Try.prog 88 #[.slice x ps.length d, .slice y xs.length q] w (RetN (jside ps xs) w) := by
  have HX := Lib.hid hx
  have HY := Lib.hid hy
  have HF := Lib.hid hF
  clear hx hy hF
  have HE := Lib.hid (show jside ps xs = if 0 ≤ jsum ps xs ps.length then 1 else -1 from rfl)
  generalize jside ps xs = r9 at *
  go_enter Try.func88, Try.ntmps88
  go_wp2_with fail
  go_loopw [5, 6] (fun s i wr => ∃ k : Nat, k ≤ ps.length ∧ i = .int .i64 k ∧ s = .int .i64 (jsum ps xs k) ∧ Below w.heap.size w wr) (fun _ i _ => ps.length - (intOf i).toNat)
  case atStart => exact ⟨0, Nat.zero_le _, rfl, rfl, Below.refl _ _⟩
  case round =>
    obtain ⟨k, hk, rfl, rfl, hbel⟩ := hrel
    have HBl := Lib.hid hbel
    have hsz := hbel.size
    have hbd := jsum_bd ps xs k
    by_cases hlt : k < ps.length
    · obtain ⟨g, go, p, pq, hab, hbl, hc, hd, hpq, hrow⟩ := (HX.out.below hbel).at hlt
      subst hab
      have hFk := HF.out k hlt
      have HS := Lib.hid (show jsum ps xs (k + 1) = jsum ps xs k + side (ps.getD k ([], 0)).1 (ps.getD k ([], 0)).2 xs from rfl)
      have hsb := side_bd (ps.getD k ([], 0)).1 (ps.getD k ([], 0)).2 xs
      have HC := Lib.hid (spec_side p (ps.getD k ([], 0)).1 pq (ps.getD k ([], 0)).2 y xs q wr hrow (HY.out.below hbel) (by omega) (Nat.le_of_eq hFk.1) (by omega) hFk.2)
      have i1 : (0 : Int) ≤ (k : Int) := by omega
      have i2 : (k : Int) < (ps.length : Int) := by omega
      clear hbel hrow hpq hFk
      generalize side (ps.getD k ([], 0)).1 (ps.getD k ([], 0)).2 xs = z at *
      generalize (ps.getD k ([], 0)).2 = b at *
      generalize (ps.getD k ([], 0)).1 = ws at *
      generalize jsum ps xs k = m at *
      go_wp2_with fail
      refine HC.out.mono ?_
      rintro e w2 ⟨rfl, hb2⟩
      have HB2 := Lib.hid (HBl.out.trans (hb2.mono hsz))
      clear hb2
      go_wp2_with fail
      go_roundw
      case rel => exact ⟨k + 1, by omega, by go_num, by rw [HS.out], HB2.out⟩
      case measure => simp [intOf]; omega
    · obtain rfl : k = ps.length := by omega
      clear hbel
      generalize jsum ps xs ps.length = m at *
      by_cases hm : 0 ≤ m
      · have e := HE.out
        rw [if_pos hm] at e
        subst e
        have g : decide (0 ≤ m) = true := by simpa using hm
        clear hm
        go_wp2_with fail
        go_ret
        exact ⟨rfl, HBl.out⟩
      · have e := HE.out
        rw [if_neg hm] at e
        subst e
        have g : decide (0 ≤ m) = false := by simpa using hm
        clear hm
        go_wp2_with fail
        go_ret
        exact ⟨rfl, HBl.out⟩
set_option maxRecDepth 100000 in
set_option maxHeartbeats 1600000 in
theorem spec_wrong (a : Option Addr) (rows : List (List Int)) (c : Nat) (a' : Option Addr) (zs : List Int) (c' : Nat) (x : Option Addr) (ps : List (List Int × Int)) (d : Nat) (ss : Nat → Int) (w : World) (hr : grid.Reads w a rows) (hz : ints.Reads .i64 w a' zs) (hl : zs.length = rows.length) (h16 : rows.length ≤ 16)
    (HD : Hid (∀ (k : Nat) (wa : World) (rp : Option Addr) (rq : Nat), k < rows.length → Below w.heap.size w wa → ints.Reads .i64 wa rp (rows.getD k []) → Calls Try.prog 88 #[.slice x ps.length d, .slice rp (rows.getD k []).length rq] wa (RetN (ss k) wa))) :
    Calls Try.prog 90 #[.agg #[.slice a rows.length c, .slice a' zs.length c'], .slice x ps.length d] w (intfns.Made (placesTo (fun k => ss k != zs.getD k 0) rows.length) w) := by
  obtain ⟨i0, hi, hz0, hz1, hz2⟩ := info_parts mk.infoInt
  have Hhr := Lib.hid hr
  have Hhz := Lib.hid hz
  have Hhl := Lib.hid hl
  clear hr hz hl
  go_enter Try.func90, Try.ntmps90
  obtain ⟨wb1, hw1⟩ : ∃ wb1 : World, wb1 = w.alloc (.cells #[.slice a rows.length c, .slice a' zs.length c'] 38) := ⟨_, rfl⟩
  have z1 : wb1.heap.size = w.heap.size + 1 := by rw [hw1]; simp
  have x0_0 := (by rw [hw1]; exact cell_new _ _ _ rfl rfl : wb1.cell? ⟨w.heap.size, 0, none⟩ = some (.slice a rows.length c))
  have x0_1 := (by rw [hw1]; exact cell_new _ _ _ rfl rfl : wb1.cell? ⟨w.heap.size, 1, none⟩ = some (.slice a' zs.length c'))
  have HB0 := Lib.hid (show Below w.heap.size w wb1 by rw [hw1]; exact (Below.refl w.heap.size w).alloc (Nat.le_refl _) _)
  have s1 : w.heap.size + 1 ≤ wb1.heap.size := by omega
  have HZ1 := Lib.hid z1
  clear z1
  go_wp2_with fail
  rw [← hw1]
  clear hw1
  rw [← HZ1.out]
  have hown0 := (own_empty wb1).1
  have hb0 := below_alloc wb1 (.cells #[] 3)
  go_loopw [5, 6] (fun v i wr => ∃ (k : Nat), k ≤ rows.length ∧ i = .int .i64 k ∧ wr.ownsRow wb1.heap.size 3 1 v (placesTo (fun k => ss k != zs.getD k 0) k).length ((placesTo (fun k => ss k != zs.getD k 0) k).map (Value.int .i64)) ∧ Below wb1.heap.size wb1 wr) (fun _ i _ => rows.length - (intOf i).toNat)
  case atStart => exact ⟨0, Nat.zero_le _, rfl, hown0, hb0⟩
  case round =>
    obtain ⟨k, hk, rfl, hown, hbel⟩ := hrel
    have hvb := hown.lt
    clear hown0 hb0
    replace x0_0 := cell_below hbel x0_0 (by omega)
    replace x0_1 := cell_below hbel x0_1 (by omega)
    have hsz := hbel.size
    by_cases hlt : k < rows.length
    · obtain ⟨bl, off, rp, rq, hab, hbl, hc, hpq, hrow⟩ := (Hhr.out.below HB0.out).at hlt
      subst hab
      replace hc := cell_below hbel hc (by omega)
      obtain ⟨lb, lo, hlb, hll, hlc⟩ := (Hhz.out.below HB0.out).at (k := k) (by have := Hhl.out; omega)
      subst hlb
      replace hlc := cell_below hbel hlc (by omega)
      have HT := Lib.hid (show ∀ wa : World, (wa.cell? ⟨w.heap.size, 0, none⟩ = some (.slice (some ⟨bl, off, none⟩) rows.length c) ∧ wa.cell? ⟨w.heap.size, 1, none⟩ = some (.slice (some ⟨lb, lo, none⟩) zs.length c') ∧ wa.cell? ⟨bl, off + k, none⟩ = some (.slice rp (rows.getD k []).length rq) ∧ wa.cell? ⟨lb, lo + k, none⟩ = some (.int .i64 (zs.getD k 0)) ∧ Below wb1.heap.size wb1 wa) → wa.ownsRow wb1.heap.size 3 1 u5 (placesTo (fun k => ss k != zs.getD k 0) k).length ((placesTo (fun k => ss k != zs.getD k 0) k).map (Value.int .i64)) →
          Calls Try.prog 88 #[.slice x ps.length d, .slice rp (rows.getD k []).length rq] wa fun e w' => e = .returned (.int .i64 (ss k)) ∧ w'.ownsRow wb1.heap.size 3 1 u5 (placesTo (fun k => ss k != zs.getD k 0) k).length ((placesTo (fun k => ss k != zs.getD k 0) k).map (Value.int .i64)) ∧ (w'.cell? ⟨w.heap.size, 0, none⟩ = some (.slice (some ⟨bl, off, none⟩) rows.length c) ∧ w'.cell? ⟨w.heap.size, 1, none⟩ = some (.slice (some ⟨lb, lo, none⟩) zs.length c') ∧ w'.cell? ⟨bl, off + k, none⟩ = some (.slice rp (rows.getD k []).length rq) ∧ w'.cell? ⟨lb, lo + k, none⟩ = some (.int .i64 (zs.getD k 0)) ∧ Below wb1.heap.size wb1 w') from fun wa hS ho => by
        have hz := hS.2.2.2.2.size
        have hB := HB0.out.trans (hS.2.2.2.2.mono (by omega))
        refine (HD.out k wa rp rq hlt hB (hrow.below hS.2.2.2.2)).mono ?_
        rintro e w' ⟨rfl, hb⟩
        exact ⟨rfl, ownsRow_block ho (fun g hg => hb.block g (ho.lt g hg).2), cell_below hb hS.1 (by omega), cell_below hb hS.2.1 (by omega), cell_below hb hS.2.2.1 (by omega), cell_below hb hS.2.2.2.1 (by omega), hS.2.2.2.2.trans (hb.mono (by omega))⟩)
      have HO := Lib.hid hown
      have HV := Lib.hid hvb
      have HBl := Lib.hid hbel
      have i1 : (0 : Int) ≤ (k : Int) := by omega
      have i2 : (k : Int) < (rows.length : Int) := by omega
      have i3 : (k : Int) < (zs.length : Int) := by have := Hhl.out; omega
      clear hown hbel hrow hpq hvb
      cases hm' : (ss k != zs.getD k 0)
      · skip
        have HM := Lib.hid (placesTo_miss (fun k => ss k != zs.getD k 0) k hm')
        have g1 : (ss k != zs.getD k 0) = false := hm'
        have hlen := placesTo_length (fun k => ss k != zs.getD k 0) k
        clear hm'
        generalize rows.getD k [] = r at *
        generalize placesTo (fun k => ss k != zs.getD k 0) k = ms at *
        generalize zs.getD k 0 = z at *
        generalize ss k = s at *
        go_wp2_with fail
        go_region_held3 (fun w' => w'.cell? ⟨w.heap.size, 0, none⟩ = some (.slice (some ⟨bl, off, none⟩) rows.length c) ∧ w'.cell? ⟨w.heap.size, 1, none⟩ = some (.slice (some ⟨lb, lo, none⟩) zs.length c') ∧ w'.cell? ⟨bl, off + k, none⟩ = some (.slice rp r.length rq) ∧ w'.cell? ⟨lb, lo + k, none⟩ = some (.int .i64 z) ∧ Below wb1.heap.size wb1 w') (first | assumption | exact ⟨x0_0, x0_1, hc, hlc, HBl.out⟩ | exact ⟨x0_0, x0_1, hc, hlc, HBl.out.drew⟩) (first | (go_at_call 88; refine Calls.mono (HT.out _ (by assumption) (by first | exact HO.out | exact HO.out.drew)) ?_; rintro e wq ⟨rfl, hoq, hbx⟩))
        have hbq := hbx.2.2.2.2
        have HBq := Lib.hid hbq
        have hzq := hbq.size
        clear hbq hbx
        have HOq := Lib.hid hoq
        clear hoq
        go_wp2_with fail
        go_roundw
        case rel => exact ⟨k + 1, by omega, by go_num, by rw [HM.out]; exact HOq.out, HBq.out⟩
        case measure => simp [intOf]; omega
      · skip
        have HM := Lib.hid (placesTo_hit (fun k => ss k != zs.getD k 0) k hm')
        have g1 : (ss k != zs.getD k 0) = true := hm'
        have hlen := placesTo_length (fun k => ss k != zs.getD k 0) k
        clear hm'
        generalize rows.getD k [] = r at *
        generalize placesTo (fun k => ss k != zs.getD k 0) k = ms at *
        generalize zs.getD k 0 = z at *
        generalize ss k = s at *
        go_wp2_with fail
        go_region_held3 (fun w' => w'.cell? ⟨w.heap.size, 0, none⟩ = some (.slice (some ⟨bl, off, none⟩) rows.length c) ∧ w'.cell? ⟨w.heap.size, 1, none⟩ = some (.slice (some ⟨lb, lo, none⟩) zs.length c') ∧ w'.cell? ⟨bl, off + k, none⟩ = some (.slice rp r.length rq) ∧ w'.cell? ⟨lb, lo + k, none⟩ = some (.int .i64 z) ∧ Below wb1.heap.size wb1 w') (first | assumption | exact ⟨x0_0, x0_1, hc, hlc, HBl.out⟩ | exact ⟨x0_0, x0_1, hc, hlc, HBl.out.drew⟩) (first | (go_at_call 88; refine Calls.mono (HT.out _ (by assumption) (by first | exact HO.out | exact HO.out.drew)) ?_; rintro e wq ⟨rfl, hoq, hbx⟩))
        have hbq := hbx.2.2.2.2
        have HBq := Lib.hid hbq
        have hzq := hbq.size
        clear hbq hbx
        go_wp2_with (at_builtin; refine wpList_append_own _ rfl _ _ 22 rfl wb1.heap.size 3 i0 (.int .i64 0) 1 8 Try.underlying22 hi hz0 hz1 hz2 rfl (by decide) _ _ _ rfl (hoq.alloc _) ⟨wq.heap.size, 0, none⟩ 1 1 [.int .i64 (k : Nat)] rfl rfl (cell_one_new _ _ _) (by simp [Value.oneCell']) (by unfold maxLen; omega) (by omega) (by simp; omega) ?_; intro v' w2 hown' hgrow _)
        obtain ⟨g', cap', hv'⟩ := ownsRow_succ hown'
        subst hv'
        have HO2 := Lib.hid hown'
        have HB2 := Lib.hid ((HBq.out.alloc HBq.out.size _).grown hgrow (Nat.le_trans HBq.out.size (by simp)) (fun g e => (HV.out g e).1))
        clear hoq hown' hgrow
        go_wp2_with fail
        go_roundw
        case rel => exact ⟨k + 1, by omega, by go_num, by rw [HM.out, List.map_append, List.length_append]; exact HO2.out, HB2.out⟩
        case measure => simp [intOf]; omega
    · have hk' : k = rows.length := by omega
      have HF1 := Lib.hid (show intfns.Made (placesTo (fun k => ss k != zs.getD k 0) rows.length) w (.returned u5) wr from by
        refine ⟨u5, rfl, ?_, HB0.out.trans (hbel.mono (by omega))⟩
        rw [hk'] at hown
        exact (OwnI.of hown).mono (by omega) (Nat.le_refl _))
      clear hown hbel hvb hk'
      go_wp2_with fail
      go_ret
      exact HF1.out
theorem one_of_jury {ps : List (List Int × Int)} {xs : List Int} (hj : juryB ps = true) (ho : oneB (ps.getD 0 ([], 0)).1 (ps.getD 0 ([], 0)).2 xs = true) (k : Nat) (hk : k < ps.length) : (ps.getD k ([], 0)).1.length = xs.length ∧ Small (ps.getD k ([], 0)).1 xs := by
  obtain ⟨h1, h2, h3⟩ := (juryB_iff ps).1 hj
  obtain ⟨o1, o2, o3⟩ := (oneB_iff _ _ _).1 ho
  obtain ⟨p1, p2⟩ := h1 k hk
  have e : (ps.getD k ([], 0)).1.length = xs.length := by omega
  exact ⟨e, one_small ((oneB_iff _ _ _).2 ⟨p1, o2, e.symm⟩)⟩
set_option maxRecDepth 100000 in
set_option maxHeartbeats 1600000 in
theorem spec_side_no1 (x : Option Addr) (ps : List (List Int × Int)) (d : Nat) (y : Option Addr) (xs : List Int) (q : Nat) (w : World) (hx : ReadsJ w x ps) (hy : ints.Reads .i64 w y xs) (hn : ps.length ≤ 1048576) (hw : ∀ k, k < ps.length → (ps.getD k ([], 0)).1.length ≤ 1048576) (hxl : xs.length ≤ 1048576) (hj : juryB ps = false) :
    Calls Try.prog 45 #[.slice x ps.length d, .slice y xs.length q] w (RetNB 0 false w) := by
  have HX := Lib.hid hx
  have HY := Lib.hid hy
  have HJ := Lib.hid hj
  clear hx hy hj
  go_enter Try.func45, Try.ntmps45
  go_wp2_with fail
  refine (spec_jury x ps d w HX.out hn hw false HJ).mono ?_
  rintro e w1 ⟨rfl, hb⟩
  have HB1 := Lib.hid hb
  clear hb
  go_wp2_with fail
  go_ret2
  exact ⟨rfl, HB1.out⟩
set_option maxRecDepth 100000 in
set_option maxHeartbeats 1600000 in
theorem spec_side_no2 (x : Option Addr) (ps : List (List Int × Int)) (d : Nat) (y : Option Addr) (xs : List Int) (q : Nat) (w : World) (hx : ReadsJ w x ps) (hy : ints.Reads .i64 w y xs) (hn : ps.length ≤ 1048576) (hw : ∀ k, k < ps.length → (ps.getD k ([], 0)).1.length ≤ 1048576) (hxl : xs.length ≤ 1048576) (hj : juryB ps = true) (ho : oneB (ps.getD 0 ([], 0)).1 (ps.getD 0 ([], 0)).2 xs = false) :
    Calls Try.prog 45 #[.slice x ps.length d, .slice y xs.length q] w (RetNB 0 false w) := by
  have HX := Lib.hid hx
  have HY := Lib.hid hy
  have HJ := Lib.hid hj
  have HO := Lib.hid ho
  have h1 : 0 < ps.length := by have := ((juryB_iff ps).1 hj).2.1; omega
  obtain ⟨g, go, p, pq, hab, hbl, hc, hd, _, hrow⟩ := hx.at h1
  rw [Nat.zero_mul, Nat.add_zero] at hc hd
  have hw0 := hw 0 h1
  have HROW := Lib.hid hrow
  subst hab
  have i3 : (0 : Int) < (ps.length : Int) := by omega
  clear hx hy hj ho hrow
  go_enter Try.func45, Try.ntmps45
  go_wp2_with fail
  refine (spec_jury (some ⟨g, go, none⟩) ps d w HX.out hn hw true HJ).mono ?_
  rintro e w1 ⟨rfl, hb⟩
  have HB1 := Lib.hid hb
  have kc := cell_below hb hc hbl
  have kd := cell_below hb hd hbl
  clear hc hd
  generalize hw9 : (ps.getD 0 ([], 0)).1 = ws at *
  generalize hb9 : (ps.getD 0 ([], 0)).2 = b at *
  clear hw9 hb9
  clear hb
  go_wp2_with fail
  refine (spec_one p ws pq b y xs q _ (HROW.out.below HB1.out) (HY.out.below HB1.out) hw0 hxl false HO).mono ?_
  rintro e w2 ⟨rfl, hb⟩
  have HB2 := Lib.hid (HB1.out.trans (hb.mono HB1.out.size))
  clear hb
  go_wp2_with fail
  go_ret2
  exact ⟨rfl, HB2.out⟩
set_option maxRecDepth 100000 in
set_option maxHeartbeats 1600000 in
theorem spec_side_yes (x : Option Addr) (ps : List (List Int × Int)) (d : Nat) (y : Option Addr) (xs : List Int) (q : Nat) (w : World) (hx : ReadsJ w x ps) (hy : ints.Reads .i64 w y xs) (hn : ps.length ≤ 1048576) (hw : ∀ k, k < ps.length → (ps.getD k ([], 0)).1.length ≤ 1048576) (hxl : xs.length ≤ 1048576) (hj : juryB ps = true) (ho : oneB (ps.getD 0 ([], 0)).1 (ps.getD 0 ([], 0)).2 xs = true) :
    Calls Try.prog 45 #[.slice x ps.length d, .slice y xs.length q] w (RetNB (jside ps xs) true w) := by
  have HX := Lib.hid hx
  have HY := Lib.hid hy
  have HJ := Lib.hid hj
  have HO := Lib.hid ho
  have h1 : 0 < ps.length := by have := ((juryB_iff ps).1 hj).2.1; omega
  obtain ⟨g, go, p, pq, hab, hbl, hc, hd, _, hrow⟩ := hx.at h1
  rw [Nat.zero_mul, Nat.add_zero] at hc hd
  have hw0 := hw 0 h1
  have HROW := Lib.hid hrow
  subst hab
  have i3 : (0 : Int) < (ps.length : Int) := by omega
  have HF := Lib.hid (fun k hk => one_of_jury hj ho k hk)
  have h4 := ((pointB_iff _).1 ((oneB_iff _ _ _).1 ho).2.1).2.1
  have h9 := ((juryB_iff ps).1 hj).2.2
  clear hx hy hj ho hrow
  go_enter Try.func45, Try.ntmps45
  go_wp2_with fail
  refine (spec_jury (some ⟨g, go, none⟩) ps d w HX.out hn hw true HJ).mono ?_
  rintro e w1 ⟨rfl, hb⟩
  have HB1 := Lib.hid hb
  have kc := cell_below hb hc hbl
  have kd := cell_below hb hd hbl
  clear hc hd
  generalize hw9 : (ps.getD 0 ([], 0)).1 = ws at *
  generalize hb9 : (ps.getD 0 ([], 0)).2 = b at *
  clear hw9 hb9
  clear hb
  go_wp2_with fail
  refine (spec_one p ws pq b y xs q _ (HROW.out.below HB1.out) (HY.out.below HB1.out) hw0 hxl true HO).mono ?_
  rintro e w2 ⟨rfl, hb⟩
  have HB2 := Lib.hid (HB1.out.trans (hb.mono HB1.out.size))
  clear hb
  go_wp2_with fail
  refine (spec_jside (some ⟨g, go, none⟩) ps d y xs q _ (HX.out.below HB2.out) (HY.out.below HB2.out) HF.out h4 h9).mono ?_
  rintro e w3 ⟨rfl, hb⟩
  have HB3 := Lib.hid (HB2.out.trans (hb.mono HB2.out.size))
  clear hb
  go_wp2_with fail
  go_ret2
  exact ⟨rfl, HB3.out⟩
theorem fits_both {rows : List (List Int)} {zs : List Int} {ps : List (List Int × Int)} (hj : juryB ps = true) (hb : bothB rows zs (ps.getD 0 ([], 0)).1 (ps.getD 0 ([], 0)).2 = true) (i : Nat) (hi : i < rows.length) : (∀ k, k < ps.length → (ps.getD k ([], 0)).1.length = (rows.getD i []).length ∧ Small (ps.getD k ([], 0)).1 (rows.getD i [])) ∧ (rows.getD i []).length ≤ 4 ∧ ps.length ≤ 9 := by
  obtain ⟨b1, b2, b3⟩ := (bothB_iff _ _ _ _).1 hb
  have hF := (fit_of hb).1 i hi
  have hp := all_at _ [] rows ((sampleB_iff _ _).1 b1).2.2.2 i hi
  simp only [Bool.and_eq_true, decide_eq_true_eq] at hp
  have ho : oneB (ps.getD 0 ([], 0)).1 (ps.getD 0 ([], 0)).2 (rows.getD i []) = true := (oneB_iff _ _ _).2 ⟨b2, hp.1, hF.1⟩
  exact ⟨one_of_jury hj ho, ((pointB_iff _).1 hp.1).2.1, ((juryB_iff ps).1 hj).2.2⟩
set_option maxRecDepth 100000 in
set_option maxHeartbeats 1600000 in
theorem spec_mis_no1 (a : Option Addr) (rows : List (List Int)) (c : Nat) (a' : Option Addr) (zs : List Int) (c' : Nat) (x : Option Addr) (ps : List (List Int × Int)) (d : Nat) (w : World) (hr : grid.Reads w a rows) (hz : ints.Reads .i64 w a' zs) (hx : ReadsJ w x ps) (hn : rows.length ≤ 1048576) (hk : zs.length ≤ 1048576) (hm : ∀ r ∈ rows, r.length ≤ 1048576) (hlen : ps.length ≤ 1048576) (hw : ∀ k, k < ps.length → (ps.getD k ([], 0)).1.length ≤ 1048576) (hj : juryB ps = false) :
    Calls Try.prog 48 #[.agg #[.slice a rows.length c, .slice a' zs.length c'], .slice x ps.length d] w (RetIB [] false w) := by
  have Hhr := Lib.hid hr
  have Hhz := Lib.hid hz
  have Hhm := Lib.hid hm
  clear hr hz hm
  have HX := Lib.hid hx
  have HJ := Lib.hid hj
  have HW := Lib.hid hw
  clear hx hj hw
  go_enter Try.func48, Try.ntmps48
  obtain ⟨wb1, hw1⟩ : ∃ wb1 : World, wb1 = w.alloc (.cells #[.slice a rows.length c, .slice a' zs.length c'] 38) := ⟨_, rfl⟩
  have z1 : wb1.heap.size = w.heap.size + 1 := by rw [hw1]; simp
  have x0_0 := (by rw [hw1]; exact cell_new _ _ _ rfl rfl : wb1.cell? ⟨w.heap.size, 0, none⟩ = some (.slice a rows.length c))
  have x0_1 := (by rw [hw1]; exact cell_new _ _ _ rfl rfl : wb1.cell? ⟨w.heap.size, 1, none⟩ = some (.slice a' zs.length c'))
  have HB0 := Lib.hid (show Below w.heap.size w wb1 by rw [hw1]; exact (Below.refl w.heap.size w).alloc (Nat.le_refl _) _)
  have s1 : w.heap.size + 1 ≤ wb1.heap.size := by omega
  have HZ1 := Lib.hid z1
  clear z1
  go_wp2_with fail
  rw [← hw1]
  clear hw1
  refine wp_region_noPanic ?_
  refine wp_region_held_drew (S := fun w' => w'.cell? ⟨w.heap.size, 0, none⟩ = some (.slice a rows.length c) ∧ w'.cell? ⟨w.heap.size, 1, none⟩ = some (.slice a' zs.length c')) (by kernel_rfl) ?_ (fun hHeld => ?_)
  · exact ⟨x0_0, x0_1⟩
  refine wpAnyH_take (i := 0) (v := ?_) rfl (by kernel_rfl) (by kernel_rfl) (by kernel_rfl) (fun _ _ _ h => h) (Or.inl ⟨by rfl, ?_⟩) (by assumption) ?_
  rotate_left
  · intro w9 hSw; (try dsimp only at hSw); go_simp; try with_reducible rfl
  try simp only [List.getElem_toArray, List.getElem_cons_succ, List.getElem_cons_zero, Act.put, List.setIfInBounds_toArray, List.set_cons_zero, List.set_cons_succ]
  refine wpAnyH_ready (rs := [1]) (by kernel_rfl) (by simp) ?_
  refine AllReadyH.cons rfl (fun K hK => ?_) AllReadyH.nil
  clear hHeld
  go_simp
  refine (spec_jury x ps d _ (HX.out.below (HB0.out.trans (Below.refl _ _).drew)) hlen HW.out false HJ).mono ?_
  rintro e v1 ⟨rfl, hb1⟩
  have HC1 := Lib.hid ((Below.refl wb1.heap.size wb1).drew.trans hb1)
  have hs1 := HC1.out.size
  have m0 := cell_below HC1.out x0_0 (by omega)
  have m1 := cell_below HC1.out x0_1 (by omega)
  clear hb1
  refine hK.out _ _ ?_ (fun hHeld => ?_)
  · exact ⟨m0, m1⟩
  clear hK K
  try simp only [List.getElem_toArray, List.getElem_cons_succ, List.getElem_cons_zero, Act.put, List.setIfInBounds_toArray, List.set_cons_zero, List.set_cons_succ]
  refine wpAnyH_take (i := 2) (v := ?_) rfl (by kernel_rfl) (by kernel_rfl) (by kernel_rfl) (fun _ _ _ h => h) (Or.inl ⟨by rfl, ?_⟩) (by assumption) ?_
  rotate_left
  · intro w9 hSw; (try dsimp only at hSw); go_simp; try with_reducible rfl
  try simp only [List.getElem_toArray, List.getElem_cons_succ, List.getElem_cons_zero, Act.put, List.setIfInBounds_toArray, List.set_cons_zero, List.set_cons_succ]
  refine wpAnyH_take (i := 3) (v := ?_) rfl (by kernel_rfl) (by kernel_rfl) (by kernel_rfl) (fun _ _ _ h => h) (Or.inl ⟨by rfl, ?_⟩) (by assumption) ?_
  rotate_left
  · intro w9 hSw; (try dsimp only at hSw); go_simp; try with_reducible rfl
  try simp only [List.getElem_toArray, List.getElem_cons_succ, List.getElem_cons_zero, Act.put, List.setIfInBounds_toArray, List.set_cons_zero, List.set_cons_succ]
  refine wpAnyH_take (i := 4) (v := undef) rfl (by kernel_rfl) (by kernel_rfl) (by kernel_rfl) (fun _ _ _ h => h) (Or.inr ⟨by rfl, rfl⟩) (by assumption) ?_
  try simp only [List.getElem_toArray, List.getElem_cons_succ, List.getElem_cons_zero, Act.put, List.setIfInBounds_toArray, List.set_cons_zero, List.set_cons_succ]
  refine wpAnyH_take (i := 5) (v := undef) rfl (by kernel_rfl) (by kernel_rfl) (by kernel_rfl) (fun _ _ _ h => h) (Or.inr ⟨by rfl, rfl⟩) (by assumption) ?_
  try simp only [List.getElem_toArray, List.getElem_cons_succ, List.getElem_cons_zero, Act.put, List.setIfInBounds_toArray, List.set_cons_zero, List.set_cons_succ]
  refine wpAnyH_take (i := 6) (v := undef) rfl (by kernel_rfl) (by kernel_rfl) (by kernel_rfl) (fun _ _ _ h => h) (Or.inr ⟨by rfl, rfl⟩) (by assumption) ?_
  try simp only [List.getElem_toArray, List.getElem_cons_succ, List.getElem_cons_zero, Act.put, List.setIfInBounds_toArray, List.set_cons_zero, List.set_cons_succ]
  refine wpAnyH_take (i := 7) (v := undef) rfl (by kernel_rfl) (by kernel_rfl) (by kernel_rfl) (fun _ _ _ h => h) (Or.inr ⟨by rfl, rfl⟩) (by assumption) ?_
  try simp only [List.getElem_toArray, List.getElem_cons_succ, List.getElem_cons_zero, Act.put, List.setIfInBounds_toArray, List.set_cons_zero, List.set_cons_succ]
  refine wpAnyH_take (i := 8) (v := undef) rfl (by kernel_rfl) (by kernel_rfl) (by kernel_rfl) (fun _ _ _ h => h) (Or.inr ⟨by rfl, rfl⟩) (by assumption) ?_
  try simp only [List.getElem_toArray, List.getElem_cons_succ, List.getElem_cons_zero, Act.put, List.setIfInBounds_toArray, List.set_cons_zero, List.set_cons_succ]
  refine wpAnyH_take (i := 9) (v := undef) rfl (by kernel_rfl) (by kernel_rfl) (by kernel_rfl) (fun _ _ _ h => h) (Or.inr ⟨by rfl, rfl⟩) (by assumption) ?_
  try simp only [List.getElem_toArray, List.getElem_cons_succ, List.getElem_cons_zero, Act.put, List.setIfInBounds_toArray, List.set_cons_zero, List.set_cons_succ]
  refine wpAnyH_take (i := 10) (v := ?_) rfl (by kernel_rfl) (by kernel_rfl) (by kernel_rfl) (fun _ _ _ h => h) (Or.inl ⟨by rfl, ?_⟩) (by assumption) ?_
  rotate_left
  · intro w9 hSw; (try dsimp only at hSw); go_simp; try with_reducible rfl
  try simp only [List.getElem_toArray, List.getElem_cons_succ, List.getElem_cons_zero, Act.put, List.setIfInBounds_toArray, List.set_cons_zero, List.set_cons_succ]
  refine wpAnyH_done (by kernel_rfl) ?_ _
  refine NoPanic.normal ?_
  clear hHeld
  go_wp2_with fail
  go_ret2
  exact ret_empty (HB0.out.trans (HC1.out.mono HB0.out.size))
set_option maxRecDepth 100000 in
set_option maxHeartbeats 1600000 in
theorem spec_mis_no2 (a : Option Addr) (rows : List (List Int)) (c : Nat) (a' : Option Addr) (zs : List Int) (c' : Nat) (x : Option Addr) (ps : List (List Int × Int)) (d : Nat) (w : World) (hr : grid.Reads w a rows) (hz : ints.Reads .i64 w a' zs) (hx : ReadsJ w x ps) (hn : rows.length ≤ 1048576) (hk : zs.length ≤ 1048576) (hm : ∀ r ∈ rows, r.length ≤ 1048576) (hlen : ps.length ≤ 1048576) (hw : ∀ k, k < ps.length → (ps.getD k ([], 0)).1.length ≤ 1048576) (hj : juryB ps = true) (ho : bothB rows zs (ps.getD 0 ([], 0)).1 (ps.getD 0 ([], 0)).2 = false) :
    Calls Try.prog 48 #[.agg #[.slice a rows.length c, .slice a' zs.length c'], .slice x ps.length d] w (RetIB [] false w) := by
  have Hhr := Lib.hid hr
  have Hhz := Lib.hid hz
  have Hhm := Lib.hid hm
  clear hr hz hm
  have HX := Lib.hid hx
  have HJ := Lib.hid hj
  have HW := Lib.hid hw
  have HO := Lib.hid ho
  have h1 : 0 < ps.length := by have := ((juryB_iff ps).1 hj).2.1; omega
  have i3 : (0 : Int) < (ps.length : Int) := by omega
  have hw0 := hw 0 h1
  clear hx hj hw ho
  go_enter Try.func48, Try.ntmps48
  obtain ⟨wb1, hw1⟩ : ∃ wb1 : World, wb1 = w.alloc (.cells #[.slice a rows.length c, .slice a' zs.length c'] 38) := ⟨_, rfl⟩
  have z1 : wb1.heap.size = w.heap.size + 1 := by rw [hw1]; simp
  have x0_0 := (by rw [hw1]; exact cell_new _ _ _ rfl rfl : wb1.cell? ⟨w.heap.size, 0, none⟩ = some (.slice a rows.length c))
  have x0_1 := (by rw [hw1]; exact cell_new _ _ _ rfl rfl : wb1.cell? ⟨w.heap.size, 1, none⟩ = some (.slice a' zs.length c'))
  have HB0 := Lib.hid (show Below w.heap.size w wb1 by rw [hw1]; exact (Below.refl w.heap.size w).alloc (Nat.le_refl _) _)
  have s1 : w.heap.size + 1 ≤ wb1.heap.size := by omega
  have HZ1 := Lib.hid z1
  clear z1
  go_wp2_with fail
  rw [← hw1]
  clear hw1
  obtain ⟨g, go, p, pq, hab, hbl, kc, kd, _, hrow⟩ := (HX.out.below HB0.out).at h1
  rw [Nat.zero_mul, Nat.add_zero] at kc kd
  have HROW := Lib.hid hrow
  subst hab
  clear hrow
  generalize (ps.getD 0 ([], 0)).1 = ws at *
  generalize (ps.getD 0 ([], 0)).2 = b at *
  refine wp_region_noPanic ?_
  refine wp_region_held_drew (S := fun w' => w'.cell? ⟨w.heap.size, 0, none⟩ = some (.slice a rows.length c) ∧ w'.cell? ⟨w.heap.size, 1, none⟩ = some (.slice a' zs.length c') ∧ w'.cell? ⟨g, go, none⟩ = some (.slice p ws.length pq) ∧ w'.cell? ⟨g, go + 1, none⟩ = some (.int .i64 b)) (by kernel_rfl) ?_ (fun hHeld => ?_)
  · exact ⟨x0_0, x0_1, kc, kd⟩
  refine wpAnyH_take (i := 0) (v := ?_) rfl (by kernel_rfl) (by kernel_rfl) (by kernel_rfl) (fun _ _ _ h => h) (Or.inl ⟨by rfl, ?_⟩) (by assumption) ?_
  rotate_left
  · intro w9 hSw; (try dsimp only at hSw); go_simp; try with_reducible rfl
  try simp only [List.getElem_toArray, List.getElem_cons_succ, List.getElem_cons_zero, Act.put, List.setIfInBounds_toArray, List.set_cons_zero, List.set_cons_succ]
  refine wpAnyH_ready (rs := [1]) (by kernel_rfl) (by simp) ?_
  refine AllReadyH.cons rfl (fun K hK => ?_) AllReadyH.nil
  clear hHeld
  go_simp
  refine (spec_jury (some ⟨g, go, none⟩) ps d _ (HX.out.below (HB0.out.trans (Below.refl _ _).drew)) hlen HW.out true HJ).mono ?_
  rintro e v1 ⟨rfl, hb1⟩
  have HC1 := Lib.hid ((Below.refl wb1.heap.size wb1).drew.trans hb1)
  have hs1 := HC1.out.size
  have m0 := cell_below HC1.out x0_0 (by omega)
  have m1 := cell_below HC1.out x0_1 (by omega)
  have m2 := cell_below HC1.out kc (by omega)
  have m3 := cell_below HC1.out kd (by omega)
  clear hb1
  refine hK.out _ _ ?_ (fun hHeld => ?_)
  · exact ⟨m0, m1, m2, m3⟩
  clear hK K
  try simp only [List.getElem_toArray, List.getElem_cons_succ, List.getElem_cons_zero, Act.put, List.setIfInBounds_toArray, List.set_cons_zero, List.set_cons_succ]
  refine wpAnyH_take (i := 2) (v := ?_) rfl (by kernel_rfl) (by kernel_rfl) (by kernel_rfl) (fun _ _ _ h => h) (Or.inl ⟨by rfl, ?_⟩) (by assumption) ?_
  rotate_left
  · intro w9 hSw; (try dsimp only at hSw); go_simp; try with_reducible rfl
  try simp only [List.getElem_toArray, List.getElem_cons_succ, List.getElem_cons_zero, Act.put, List.setIfInBounds_toArray, List.set_cons_zero, List.set_cons_succ]
  refine wpAnyH_take (i := 3) (v := ?_) rfl (by kernel_rfl) (by kernel_rfl) (by kernel_rfl) (fun _ _ _ h => h) (Or.inl ⟨by rfl, ?_⟩) (by assumption) ?_
  rotate_left
  · intro w9 hSw; (try dsimp only at hSw); go_simp; try with_reducible rfl
  try simp only [List.getElem_toArray, List.getElem_cons_succ, List.getElem_cons_zero, Act.put, List.setIfInBounds_toArray, List.set_cons_zero, List.set_cons_succ]
  refine wpAnyH_take (i := 4) (v := ?_) rfl (by kernel_rfl) (by kernel_rfl) (by kernel_rfl) (fun _ _ _ h => h) (Or.inl ⟨by rfl, ?_⟩) (by assumption) ?_
  rotate_left
  · intro w9 hSw; (try dsimp only at hSw); go_simp; try with_reducible rfl
  try simp only [List.getElem_toArray, List.getElem_cons_succ, List.getElem_cons_zero, Act.put, List.setIfInBounds_toArray, List.set_cons_zero, List.set_cons_succ]
  refine wpAnyH_take (i := 5) (v := ?_) rfl (by kernel_rfl) (by kernel_rfl) (by kernel_rfl) (fun _ _ _ h => h) (Or.inl ⟨by rfl, ?_⟩) (by assumption) ?_
  rotate_left
  · intro w9 hSw; (try dsimp only at hSw); go_simp; try with_reducible rfl
  try simp only [List.getElem_toArray, List.getElem_cons_succ, List.getElem_cons_zero, Act.put, List.setIfInBounds_toArray, List.set_cons_zero, List.set_cons_succ]
  refine wpAnyH_take (i := 6) (v := ?_) rfl (by kernel_rfl) (by kernel_rfl) (by kernel_rfl) (fun _ _ _ h => h) (Or.inl ⟨by rfl, ?_⟩) (by assumption) ?_
  rotate_left
  · intro w9 hSw; (try dsimp only at hSw); go_simp; try with_reducible rfl
  try simp only [List.getElem_toArray, List.getElem_cons_succ, List.getElem_cons_zero, Act.put, List.setIfInBounds_toArray, List.set_cons_zero, List.set_cons_succ]
  refine wpAnyH_take (i := 7) (v := ?_) rfl (by kernel_rfl) (by kernel_rfl) (by kernel_rfl) (fun _ _ _ h => h) (Or.inl ⟨by rfl, ?_⟩) (by assumption) ?_
  rotate_left
  · intro w9 hSw; (try dsimp only at hSw); go_simp; try with_reducible rfl
  try simp only [List.getElem_toArray, List.getElem_cons_succ, List.getElem_cons_zero, Act.put, List.setIfInBounds_toArray, List.set_cons_zero, List.set_cons_succ]
  refine wpAnyH_ready (rs := [8]) (by kernel_rfl) (by simp) ?_
  refine AllReadyH.cons rfl (fun K hK => ?_) AllReadyH.nil
  clear hHeld
  go_simp
  refine (spec_both a rows c a' zs c' p ws pq b v1 (Hhr.out.below (HB0.out.trans (HC1.out.mono HB0.out.size))) (Hhz.out.below (HB0.out.trans (HC1.out.mono HB0.out.size))) (HROW.out.below HC1.out) hn hk Hhm.out hw0 false HO).mono ?_
  rintro e v2 ⟨rfl, hb2⟩
  have HC2 := Lib.hid (HC1.out.trans (hb2.mono HC1.out.size))
  have hs2 := HC2.out.size
  have n0 := cell_below hb2 m0 (by omega)
  have n1 := cell_below hb2 m1 (by omega)
  have n2 := cell_below hb2 m2 (by omega)
  have n3 := cell_below hb2 m3 (by omega)
  clear hb2
  refine hK.out _ _ ?_ (fun hHeld => ?_)
  · exact ⟨n0, n1, n2, n3⟩
  clear hK K
  try simp only [List.getElem_toArray, List.getElem_cons_succ, List.getElem_cons_zero, Act.put, List.setIfInBounds_toArray, List.set_cons_zero, List.set_cons_succ]
  refine wpAnyH_take (i := 9) (v := ?_) rfl (by kernel_rfl) (by kernel_rfl) (by kernel_rfl) (fun _ _ _ h => h) (Or.inl ⟨by rfl, ?_⟩) (by assumption) ?_
  rotate_left
  · intro w9 hSw; (try dsimp only at hSw); go_simp; try with_reducible rfl
  try simp only [List.getElem_toArray, List.getElem_cons_succ, List.getElem_cons_zero, Act.put, List.setIfInBounds_toArray, List.set_cons_zero, List.set_cons_succ]
  refine wpAnyH_take (i := 10) (v := ?_) rfl (by kernel_rfl) (by kernel_rfl) (by kernel_rfl) (fun _ _ _ h => h) (Or.inl ⟨by rfl, ?_⟩) (by assumption) ?_
  rotate_left
  · intro w9 hSw; (try dsimp only at hSw); go_simp; try with_reducible rfl
  try simp only [List.getElem_toArray, List.getElem_cons_succ, List.getElem_cons_zero, Act.put, List.setIfInBounds_toArray, List.set_cons_zero, List.set_cons_succ]
  refine wpAnyH_done (by kernel_rfl) ?_ _
  refine NoPanic.normal ?_
  clear hHeld
  go_wp2_with fail
  go_ret2
  exact ret_empty (HB0.out.trans (HC2.out.mono HB0.out.size))
set_option maxRecDepth 100000 in
set_option maxHeartbeats 1600000 in
theorem spec_mis_yes (a : Option Addr) (rows : List (List Int)) (c : Nat) (a' : Option Addr) (zs : List Int) (c' : Nat) (x : Option Addr) (ps : List (List Int × Int)) (d : Nat) (w : World) (hr : grid.Reads w a rows) (hz : ints.Reads .i64 w a' zs) (hx : ReadsJ w x ps) (hn : rows.length ≤ 1048576) (hk : zs.length ≤ 1048576) (hm : ∀ r ∈ rows, r.length ≤ 1048576) (hlen : ps.length ≤ 1048576) (hw : ∀ k, k < ps.length → (ps.getD k ([], 0)).1.length ≤ 1048576) (hj : juryB ps = true) (ho : bothB rows zs (ps.getD 0 ([], 0)).1 (ps.getD 0 ([], 0)).2 = true) :
    Calls Try.prog 48 #[.agg #[.slice a rows.length c, .slice a' zs.length c'], .slice x ps.length d] w (RetIB (placesTo (fun k => jside ps (rows.getD k []) != zs.getD k 0) rows.length) true w) := by
  have Hhr := Lib.hid hr
  have Hhz := Lib.hid hz
  have Hhm := Lib.hid hm
  clear hr hz hm
  have HX := Lib.hid hx
  have HJ := Lib.hid hj
  have HW := Lib.hid hw
  have HO := Lib.hid ho
  have h1 : 0 < ps.length := by have := ((juryB_iff ps).1 hj).2.1; omega
  have i3 : (0 : Int) < (ps.length : Int) := by omega
  have hw0 := hw 0 h1
  have HL := Lib.hid (show zs.length = rows.length from ((sampleB_iff _ _).1 ((bothB_iff _ _ _ _).1 ho).1).2.1)
  have h16 := (fit_of ho).2
  have HF := Lib.hid (fun i hi => fits_both hj ho i hi)
  clear hx hj hw ho
  go_enter Try.func48, Try.ntmps48
  obtain ⟨wb1, hw1⟩ : ∃ wb1 : World, wb1 = w.alloc (.cells #[.slice a rows.length c, .slice a' zs.length c'] 38) := ⟨_, rfl⟩
  have z1 : wb1.heap.size = w.heap.size + 1 := by rw [hw1]; simp
  have x0_0 := (by rw [hw1]; exact cell_new _ _ _ rfl rfl : wb1.cell? ⟨w.heap.size, 0, none⟩ = some (.slice a rows.length c))
  have x0_1 := (by rw [hw1]; exact cell_new _ _ _ rfl rfl : wb1.cell? ⟨w.heap.size, 1, none⟩ = some (.slice a' zs.length c'))
  have HB0 := Lib.hid (show Below w.heap.size w wb1 by rw [hw1]; exact (Below.refl w.heap.size w).alloc (Nat.le_refl _) _)
  have s1 : w.heap.size + 1 ≤ wb1.heap.size := by omega
  have HZ1 := Lib.hid z1
  clear z1
  go_wp2_with fail
  rw [← hw1]
  clear hw1
  obtain ⟨g, go, p, pq, hab, hbl, kc, kd, _, hrow⟩ := (HX.out.below HB0.out).at h1
  rw [Nat.zero_mul, Nat.add_zero] at kc kd
  have HROW := Lib.hid hrow
  subst hab
  clear hrow
  generalize (ps.getD 0 ([], 0)).1 = ws at *
  generalize (ps.getD 0 ([], 0)).2 = b at *
  refine wp_region_noPanic ?_
  refine wp_region_held_drew (S := fun w' => w'.cell? ⟨w.heap.size, 0, none⟩ = some (.slice a rows.length c) ∧ w'.cell? ⟨w.heap.size, 1, none⟩ = some (.slice a' zs.length c') ∧ w'.cell? ⟨g, go, none⟩ = some (.slice p ws.length pq) ∧ w'.cell? ⟨g, go + 1, none⟩ = some (.int .i64 b)) (by kernel_rfl) ?_ (fun hHeld => ?_)
  · exact ⟨x0_0, x0_1, kc, kd⟩
  refine wpAnyH_take (i := 0) (v := ?_) rfl (by kernel_rfl) (by kernel_rfl) (by kernel_rfl) (fun _ _ _ h => h) (Or.inl ⟨by rfl, ?_⟩) (by assumption) ?_
  rotate_left
  · intro w9 hSw; (try dsimp only at hSw); go_simp; try with_reducible rfl
  try simp only [List.getElem_toArray, List.getElem_cons_succ, List.getElem_cons_zero, Act.put, List.setIfInBounds_toArray, List.set_cons_zero, List.set_cons_succ]
  refine wpAnyH_ready (rs := [1]) (by kernel_rfl) (by simp) ?_
  refine AllReadyH.cons rfl (fun K hK => ?_) AllReadyH.nil
  clear hHeld
  go_simp
  refine (spec_jury (some ⟨g, go, none⟩) ps d _ (HX.out.below (HB0.out.trans (Below.refl _ _).drew)) hlen HW.out true HJ).mono ?_
  rintro e v1 ⟨rfl, hb1⟩
  have HC1 := Lib.hid ((Below.refl wb1.heap.size wb1).drew.trans hb1)
  have hs1 := HC1.out.size
  have m0 := cell_below HC1.out x0_0 (by omega)
  have m1 := cell_below HC1.out x0_1 (by omega)
  have m2 := cell_below HC1.out kc (by omega)
  have m3 := cell_below HC1.out kd (by omega)
  clear hb1
  refine hK.out _ _ ?_ (fun hHeld => ?_)
  · exact ⟨m0, m1, m2, m3⟩
  clear hK K
  try simp only [List.getElem_toArray, List.getElem_cons_succ, List.getElem_cons_zero, Act.put, List.setIfInBounds_toArray, List.set_cons_zero, List.set_cons_succ]
  refine wpAnyH_take (i := 2) (v := ?_) rfl (by kernel_rfl) (by kernel_rfl) (by kernel_rfl) (fun _ _ _ h => h) (Or.inl ⟨by rfl, ?_⟩) (by assumption) ?_
  rotate_left
  · intro w9 hSw; (try dsimp only at hSw); go_simp; try with_reducible rfl
  try simp only [List.getElem_toArray, List.getElem_cons_succ, List.getElem_cons_zero, Act.put, List.setIfInBounds_toArray, List.set_cons_zero, List.set_cons_succ]
  refine wpAnyH_take (i := 3) (v := ?_) rfl (by kernel_rfl) (by kernel_rfl) (by kernel_rfl) (fun _ _ _ h => h) (Or.inl ⟨by rfl, ?_⟩) (by assumption) ?_
  rotate_left
  · intro w9 hSw; (try dsimp only at hSw); go_simp; try with_reducible rfl
  try simp only [List.getElem_toArray, List.getElem_cons_succ, List.getElem_cons_zero, Act.put, List.setIfInBounds_toArray, List.set_cons_zero, List.set_cons_succ]
  refine wpAnyH_take (i := 4) (v := ?_) rfl (by kernel_rfl) (by kernel_rfl) (by kernel_rfl) (fun _ _ _ h => h) (Or.inl ⟨by rfl, ?_⟩) (by assumption) ?_
  rotate_left
  · intro w9 hSw; (try dsimp only at hSw); go_simp; try with_reducible rfl
  try simp only [List.getElem_toArray, List.getElem_cons_succ, List.getElem_cons_zero, Act.put, List.setIfInBounds_toArray, List.set_cons_zero, List.set_cons_succ]
  refine wpAnyH_take (i := 5) (v := ?_) rfl (by kernel_rfl) (by kernel_rfl) (by kernel_rfl) (fun _ _ _ h => h) (Or.inl ⟨by rfl, ?_⟩) (by assumption) ?_
  rotate_left
  · intro w9 hSw; (try dsimp only at hSw); go_simp; try with_reducible rfl
  try simp only [List.getElem_toArray, List.getElem_cons_succ, List.getElem_cons_zero, Act.put, List.setIfInBounds_toArray, List.set_cons_zero, List.set_cons_succ]
  refine wpAnyH_take (i := 6) (v := ?_) rfl (by kernel_rfl) (by kernel_rfl) (by kernel_rfl) (fun _ _ _ h => h) (Or.inl ⟨by rfl, ?_⟩) (by assumption) ?_
  rotate_left
  · intro w9 hSw; (try dsimp only at hSw); go_simp; try with_reducible rfl
  try simp only [List.getElem_toArray, List.getElem_cons_succ, List.getElem_cons_zero, Act.put, List.setIfInBounds_toArray, List.set_cons_zero, List.set_cons_succ]
  refine wpAnyH_take (i := 7) (v := ?_) rfl (by kernel_rfl) (by kernel_rfl) (by kernel_rfl) (fun _ _ _ h => h) (Or.inl ⟨by rfl, ?_⟩) (by assumption) ?_
  rotate_left
  · intro w9 hSw; (try dsimp only at hSw); go_simp; try with_reducible rfl
  try simp only [List.getElem_toArray, List.getElem_cons_succ, List.getElem_cons_zero, Act.put, List.setIfInBounds_toArray, List.set_cons_zero, List.set_cons_succ]
  refine wpAnyH_ready (rs := [8]) (by kernel_rfl) (by simp) ?_
  refine AllReadyH.cons rfl (fun K hK => ?_) AllReadyH.nil
  clear hHeld
  go_simp
  refine (spec_both a rows c a' zs c' p ws pq b v1 (Hhr.out.below (HB0.out.trans (HC1.out.mono HB0.out.size))) (Hhz.out.below (HB0.out.trans (HC1.out.mono HB0.out.size))) (HROW.out.below HC1.out) hn hk Hhm.out hw0 true HO).mono ?_
  rintro e v2 ⟨rfl, hb2⟩
  have HC2 := Lib.hid (HC1.out.trans (hb2.mono HC1.out.size))
  have hs2 := HC2.out.size
  have n0 := cell_below hb2 m0 (by omega)
  have n1 := cell_below hb2 m1 (by omega)
  have n2 := cell_below hb2 m2 (by omega)
  have n3 := cell_below hb2 m3 (by omega)
  clear hb2
  refine hK.out _ _ ?_ (fun hHeld => ?_)
  · exact ⟨n0, n1, n2, n3⟩
  clear hK K
  try simp only [List.getElem_toArray, List.getElem_cons_succ, List.getElem_cons_zero, Act.put, List.setIfInBounds_toArray, List.set_cons_zero, List.set_cons_succ]
  refine wpAnyH_take (i := 9) (v := ?_) rfl (by kernel_rfl) (by kernel_rfl) (by kernel_rfl) (fun _ _ _ h => h) (Or.inl ⟨by rfl, ?_⟩) (by assumption) ?_
  rotate_left
  · intro w9 hSw; (try dsimp only at hSw); go_simp; try with_reducible rfl
  try simp only [List.getElem_toArray, List.getElem_cons_succ, List.getElem_cons_zero, Act.put, List.setIfInBounds_toArray, List.set_cons_zero, List.set_cons_succ]
  refine wpAnyH_take (i := 10) (v := ?_) rfl (by kernel_rfl) (by kernel_rfl) (by kernel_rfl) (fun _ _ _ h => h) (Or.inl ⟨by rfl, ?_⟩) (by assumption) ?_
  rotate_left
  · intro w9 hSw; (try dsimp only at hSw); go_simp; try with_reducible rfl
  try simp only [List.getElem_toArray, List.getElem_cons_succ, List.getElem_cons_zero, Act.put, List.setIfInBounds_toArray, List.set_cons_zero, List.set_cons_succ]
  refine wpAnyH_done (by kernel_rfl) ?_ _
  refine NoPanic.normal ?_
  clear hHeld
  go_wp2_with fail
  have HD2 := Lib.hid (HB0.out.trans (HC2.out.mono HB0.out.size))
  refine (spec_wrong a rows c a' zs c' (some ⟨g, go, none⟩) ps d (fun k => jside ps (rows.getD k [])) v2 (Hhr.out.below HD2.out) (Hhz.out.below HD2.out) HL.out h16 (Lib.hid fun k wa rp rq hk9 hB hrow => spec_jside (some ⟨g, go, none⟩) ps d rp _ rq wa (HX.out.below (HD2.out.trans (hB.mono HD2.out.size))) hrow (HF.out k hk9).1 (HF.out k hk9).2.1 (HF.out k hk9).2.2)).mono ?_
  rintro e w3 ⟨v, rfl, ho3, hb3⟩
  have HO3 := Lib.hid (ho3.mono HD2.out.size (Nat.le_refl _))
  have HB3 := Lib.hid (HD2.out.trans (hb3.mono HD2.out.size))
  clear ho3 hb3
  go_wp2_with fail
  go_ret2
  exact ⟨v, rfl, HO3.out, HB3.out⟩
end Go.Proofs.Ythohnnobahcdpaa.jurs
