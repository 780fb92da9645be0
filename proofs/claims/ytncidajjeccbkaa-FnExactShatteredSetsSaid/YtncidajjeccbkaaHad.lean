/- The walks of the program's list of labels that a class has, and of its test of shattering. -/
import Derived.Test.YtncidajjeccbkaaTraceP
import Derived.Test.YtncidajjeccbkaaOwnB
import Derived.Test.YtncidajjeccbkaaShelf
import Derived.Shelf.SlicesE.Index
import Derived.Test.YtncidajjeccbkaaBits8
namespace Go.Proofs.Ytncidajjeccbkaa.hadw
open Go.RowKit own pp nums bitn setcmp setord cls classt atw rising tracep ownb
set_option linter.unusedVariables false
set_option linter.unusedSimpArgs false

theorem tf_set (p : Nat → Bool) (N k : Nat) (h : k < N) : (tf p N).set k (.bool true) = tf (fun j => p j || (k == j)) N := by
  apply List.ext_getElem?
  intro i
  by_cases hi : i < N
  · rw [List.getElem?_set, tf_length, tf_at _ _ _ hi, tf_at _ _ _ hi]
    by_cases e : k = i
    · subst e; rw [if_pos rfl, if_pos h]; simp
    · rw [if_neg e, show (k == i) = false from beq_eq_false_iff_ne.2 e, Bool.or_false]
  · rw [List.getElem?_eq_none (by rw [List.length_set, tf_length]; omega), List.getElem?_eq_none (by rw [tf_length]; omega)]
theorem tf_none (N : Nat) : tf (fun _ => false) N = List.replicate N (.bool false) := by
  unfold tf
  rw [List.map_const', List.length_range]
set_option maxRecDepth 100000 in
set_option maxHeartbeats 4000000 in
theorem impl_had (a : Option Addr) (rows : List (List Int)) (c : Nat) (a1 : Option Addr) (set : List Int) (c1 : Nat) (w : World) (hr : grid.Reads w a rows) (hq : ints.Reads .i64 w a1 set) {m : Nat} (hC : Cls rows m) (hin : Inside m set) (h8 : set.length ≤ 8) :
    Calls Try.prog 62 #[.slice a rows.length c, .slice a1 set.length c1] w (MadeB (2 ^ set.length) (hadTo rows set rows.length) w) := by
  obtain ⟨i0, hi, hz0, hz1, hz2⟩ := info_parts infoBool
  have hp12 := bits8.pow8 h8
  have HPW := Lib.hid (show ((2 : Int) ^ set.length) = ((2 ^ set.length : Nat) : Int) from by simp)
  have HCL := Lib.hid (fun i (hi : i < rows.length) => code_lt (atL (rows.getD i []) set) set.length)
  have HHS := Lib.hid (fun j => show (fun k => hadTo rows set j k || (codeTo (atL (rows.getD j []) set) set.length == k)) = hadTo rows set (j + 1) from funext fun k => (had_succ rows set j k).symm)
  have HH0 := Lib.hid (show hadTo rows set 0 = fun _ => false from rfl)
  have HAL := Lib.hid (fun i (hi : i < rows.length) j (hj : j < set.length) => show (atL (rows.getD i []) set).getD j 0 = 1 ∨ (atL (rows.getD i []) set).getD j 0 = -1 from at_Lab hC hi hin j (by rw [at_length]; exact hj))
  have HAG := Lib.hid (fun i j (hj : j < set.length) => at_getD (rows.getD i []) set j hj)
  have HLEN := Lib.hid (fun i (hi : i < rows.length) => hC.len i hi)
  have HIN := Lib.hid hin
  have HR := Lib.hid hr
  have HQ := Lib.hid hq
  have h256 := hC.top
  obtain ⟨N, hN⟩ : ∃ N : Nat, 2 ^ set.length = N := ⟨_, rfl⟩
  rw [hN] at hp12 HPW HCL ⊢
  clear hr hq hC hin hN
  have hsh : (2 : Int) ^ set.length = (N : Int) := HPW.out
  have hN8 : (N : Int) ≤ 256 := by omega
  go_enter Try.func62, Try.ntmps62
  go_wp2_with (refine wpList_make_full _ rfl _ _ 56 rfl w.heap.size 4 i0 (.bool false) 1 Try.underlying56 hi hz0 hz1 .i64 .i64 _ _ N rfl rfl rfl rfl (by rw [hz2]; omega) (by unfold maxLen; omega) (Nat.le_refl _) ?_; intro w1 hown1 hgrow1; refine Hid.out ?_)
  refine Lib.hid ?_
  have hb1 : Below w.heap.size w w1 := (Below.refl _ _).grown hgrow1 (Nat.le_refl _) (by simp)
  rw [show (Value.bool false).cells = #[Value.bool false] from rfl, Nat.mul_one, toList_madeCells_one, ← tf_none, ← HH0.out] at hown1
  clear hsh hN8
  go_wp2_with fail
  go_loopw [17] (fun i wr => ∃ k : Nat, k ≤ rows.length ∧ i = .int .i64 k ∧ wr.ownsRow w.heap.size 4 1 (.slice (some ⟨w.heap.size, 0, none⟩) N N) N (tf (hadTo rows set k) N) ∧ Below w.heap.size w wr) (fun i _ => rows.length - (intOf i).toNat)
  case atStart => exact ⟨0, Nat.zero_le _, rfl, hown1, hb1⟩
  case round =>
    obtain ⟨k, hk, rfl, hown, hbel⟩ := hrel
    clear hown1 hgrow1 hb1
    by_cases hlt : k < rows.length
    · obtain ⟨b, off, p, q, rfl, hb, hc, hpq, hrow⟩ := (HR.out.below hbel).at hlt
      have HRW := Lib.hid hrow
      have HQr := Lib.hid (HQ.out.below hbel)
      have hrl := HLEN.out k hlt
      have HCk := Lib.hid (HCL.out k hlt)
      have HOW := Lib.hid hown
      have HBl := Lib.hid hbel
      have HAk := Lib.hid (HAL.out k hlt)
      have HGk := Lib.hid (HAG.out k)
      have HSk := Lib.hid (HHS.out k)
      have HRl := Lib.hid hrl
      clear hown hbel hpq hrow hrl
      have i1 : (0 : Int) ≤ (k : Int) := by omega
      have i2 : (k : Int) < (rows.length : Int) := by omega
      generalize atL (rows.getD k []) set = al at *
      generalize rows.getD k [] = r at *
      go_wp2_with fail
      go_loop [8, 23] (fun v z => ∃ j : Nat, j ≤ set.length ∧ z = .int .i64 j ∧ v = .int .i64 ((codeTo al j : Nat) : Int)) (fun _ z => set.length - (intOf z).toNat)
      case atStart => exact ⟨0, Nat.zero_le _, rfl, rfl⟩
      case round =>
        obtain ⟨j, hj, rfl, rfl⟩ := hrel
        by_cases hltj : j < set.length
        · obtain ⟨b2, o2, rfl, hb2, hc2⟩ := HQr.out.at hltj
          obtain ⟨h0, h1⟩ := HIN.out j hltj
          obtain ⟨x, hx⟩ : ∃ x : Nat, set.getD j 0 = (x : Int) := ⟨(set.getD j 0).toNat, by omega⟩
          have hxr : x < r.length := by have := HRl.out; omega
          obtain ⟨b3, o3, rfl, hb3, hc3⟩ := HRW.out.at hxr
          have hax : al.getD j 0 = r.getD x 0 := by rw [HGk.out j hltj, hx, Int.toNat_natCast]
          have hx1 := HAk.out j hltj
          rw [hax] at hx1
          rw [hx] at hc2
          have HST := Lib.hid (show codeTo al (j + 1) = 2 * codeTo al j + dl (r.getD x 0) from by rw [codeTo, hax])
          have hcl := code_lt al j
          have hp8 : 2 ^ j ≤ 2 ^ 8 := Nat.pow_le_pow_right (by omega) (by omega)
          have j1 : (0 : Int) ≤ (j : Int) := by omega
          have j2 : (j : Int) < (set.length : Int) := by omega
          have j3 : (0 : Int) ≤ (x : Int) := by omega
          have j4 : (x : Int) < (r.length : Int) := by omega
          have hcd : codeTo al j ≤ 256 := by omega
          clear h0 h1 hx hax hcl hp8
          generalize codeTo al j = cd at *
          have e1 : IntKind.i64.wrap ((cd : Int) * 2) = (cd : Int) * 2 := IntWalk.i64_in _ (by omega)
          rcases hx1 with hx1 | hx1
          · have HX := Lib.hid (show dl (r.getD x 0) = 1 by rw [hx1]; rfl)
            rw [hx1] at hc3
            clear hx1
            have e2 : IntKind.i64.wrap ((cd : Int) * 2 + 1) = (cd : Int) * 2 + 1 := IntWalk.i64_in _ (by omega)
            go_wp2_with fail
            go_round
            case rel => exact ⟨j + 1, by omega, by go_num, by rw [HST.out, HX.out]; congr 1; omega⟩
            case measure => simp [intOf]; omega
          · have HX := Lib.hid (show dl (r.getD x 0) = 0 by rw [hx1]; rfl)
            rw [hx1] at hc3
            clear hx1
            go_wp2_with fail
            go_round
            case rel => exact ⟨j + 1, by omega, by go_num, by rw [HST.out, HX.out]; congr 1; omega⟩
            case measure => simp [intOf]; omega
        · obtain rfl : j = set.length := by omega
          have hcN := HCk.out
          have hcell : wr.cell? ⟨w.heap.size, codeTo al set.length, none⟩ = some (.bool (hadTo rows set k (codeTo al set.length))) := by rw [HOW.out.cellAt _ (by omega), tf_at _ _ _ hcN]
          have hfro := HOW.out.frozenAt (codeTo al set.length)
          have hst := (HOW.out.stored (codeTo al set.length) (.bool true)).1
          rw [tf_set _ _ _ hcN, HSk.out] at hst
          have HST := Lib.hid hst
          have j3 : (0 : Int) ≤ ((codeTo al set.length : Nat) : Int) := by omega
          have j4 : ((codeTo al set.length : Nat) : Int) < (N : Int) := by omega
          clear hst
          generalize hadTo rows set k (codeTo al set.length) = hv at *
          generalize codeTo al set.length = cd at *
          go_wp2_with fail
          go_roundw
          case rel => exact ⟨k + 1, by omega, by go_num, HST.out, HBl.out.setCell (Nat.le_refl _) _⟩
          case measure => simp [intOf]; omega
    · obtain rfl : k = rows.length := by omega
      have HF := Lib.hid (show MadeB N (hadTo rows set rows.length) w (.returned (.slice (some ⟨w.heap.size, 0, none⟩) N N)) wr from ⟨_, rfl, OwnB.of hown, hbel⟩)
      clear hown hbel
      go_wp2_with fail
      go_ret
      exact HF.out
theorem any_false (p : Nat → Bool) (N : Nat) : ((List.range N).map p).any (fun y => false == y) = !((List.range N).all p) := by
  rw [List.any_map, List.not_all_eq_any_not]
  congr 1
  funext x
  show (false == p x) = !(p x)
  cases p x <;> rfl
set_option maxRecDepth 100000 in
set_option maxHeartbeats 4000000 in
theorem impl_shatters (a : Option Addr) (rows : List (List Int)) (c : Nat) (a1 : Option Addr) (set : List Int) (c1 : Nat) (w : World) (hr : grid.Reads w a rows) (hq : ints.Reads .i64 w a1 set) {m : Nat} (hC : Cls rows m) (hin : Inside m set) (h8 : set.length ≤ 8) :
    Calls Try.prog 64 #[.slice a rows.length c, .slice a1 set.length c1] w ((fun e w' => e = .returned (.bool (shatB rows set)) ∧ Below w.heap.size w w')) := by
  have HH := Lib.hid (impl_had a rows c a1 set c1 w hr hq hC hin h8)
  have hp12 := bits8.pow8 h8
  have HSB := Lib.hid (show shatB rows set = (List.range (2 ^ set.length)).all (hadTo rows set rows.length) from rfl)
  rw [HSB.out]
  clear HSB hr hq hC hin
  generalize hadTo rows set rows.length = p at *
  generalize 2 ^ set.length = N at *
  have HAF := Lib.hid (any_false p N)
  generalize (List.range N).all p = r at *
  go_enter Try.func64, Try.ntmps64
  go_wp2_with fail
  refine HH.out.mono ?_
  rintro e w1 ⟨v, rfl, ho, hb1⟩
  obtain ⟨g, cb, rfl, _, _, hg, hcb, hcs⟩ := ho.slice hp12.1
  have HC := Lib.hid (Try.slices_Contains (α := Bool) Value.bool (fun x y => x == y) (EqlAt.bool _ rfl) g 0 N cb ((List.range N).map p) false w1 (by simp) (by omega) (fun j hj => by
    rw [Nat.zero_add, hcs j (by simpa using hj)]
    simp at hj
    simp [hj]))
  rw [List.take_of_length_le (by simp), HAF.out] at HC
  have HB1 := Lib.hid hb1
  clear ho hb1 HH hcs HAF
  go_wp2_with fail
  refine HC.out.mono ?_
  rintro e w' ⟨rfl, rfl⟩
  go_wp2_with fail
  go_ret
  exact ⟨rfl, HB1.out⟩
end Go.Proofs.Ytncidajjeccbkaa.hadw
