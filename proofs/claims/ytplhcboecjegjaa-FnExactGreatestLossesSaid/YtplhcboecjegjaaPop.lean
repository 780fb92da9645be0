/- Numbers of ones among the digits of a number: the library's, the model's; factorials: both. -/
import Derived.Test.YtplhcboecjegjaaOutc
import Derived.BigQuiet
namespace Go.Proofs.Ytplhcboecjegjaa.pop
open Go.RowKit own pp nums bitn
set_option linter.unusedVariables false
set_option linter.unusedSimpArgs false

/-- The number of ones of the digits. -/
def pcF : Nat → Nat → Nat
  | 0, _ => 0
  | f + 1, k => k % 2 + pcF f (k / 2)
def pc (k : Nat) : Nat := pcF 8 k
def f1 (x : Int) : Int := IntKind.u64.wrap (bits .and .u64 (x / 2) 6148914691236517205 + bits .and .u64 x 6148914691236517205)
def f2 (x : Int) : Int := IntKind.u64.wrap (bits .and .u64 (x / 4) 3689348814741910323 + bits .and .u64 x 3689348814741910323)
def f3 (x : Int) : Int := bits .and .u64 (IntKind.u64.wrap (x / 16 + x)) 1085102592571150095
def f4 (x : Int) : Int := IntKind.u64.wrap (x + x / 256)
def f5 (x : Int) : Int := IntKind.u64.wrap (x + x / 65536)
def f6 (x : Int) : Int := IntKind.u64.wrap (x + x / 4294967296)
def f7 (x : Int) : Int := bits .and .i64 (wrap64 x) 127
theorem pc_tab : ∀ k : Fin 256, f7 (f6 (f5 (f4 (f3 (f2 (f1 ((k.val : Nat) : Int))))))) = ((pc k.val : Nat) : Int) := by decide +kernel
set_option maxRecDepth 100000 in
set_option maxHeartbeats 4000000 in
theorem ones64 (k : Nat) (w : World) (hk : k < 256) : Calls Try.prog 181 #[.int .u64 (k : Int)] w (fun e w' => e = .returned (.int .i64 (pc k : Nat)) ∧ w' = w) := by
  go_enter Try.func181, Try.ntmps181
  go_wp2_with fail
  go_ret
  have h := pc_tab ⟨k, hk⟩
  unfold f7 f6 f5 f4 f3 f2 f1 at h
  exact ⟨congrArg (fun x => Ending.returned (.int .i64 x)) h, rfl⟩
set_option maxRecDepth 100000 in
set_option maxHeartbeats 1000000 in
theorem ones_any (k : Nat) (w : World) (hk : k < 256) : Calls Try.prog 139 #[.int .u64 (k : Int)] w (fun e w' => e = .returned (.int .i64 (pc k : Nat)) ∧ w' = w) := by
  have HC := Lib.hid (ones64 k w hk)
  go_enter Try.func139, Try.ntmps139
  go_wp2_with fail
  refine HC.out.mono ?_
  rintro e w' ⟨rfl, rfl⟩
  go_wp2_with fail
  go_ret
  exact ⟨rfl, rfl⟩
theorem pc_step : ∀ q : Fin 256, pc q.val = q.val % 2 + pc (q.val / 2) := by decide +kernel
theorem pc_le : ∀ q : Fin 256, pc q.val ≤ 8 := by decide +kernel
theorem pc_bd : ∀ n : Fin 9, ∀ q : Fin 256, q.val < 2 ^ n.val → pc q.val ≤ n.val := by decide +kernel
theorem pc_pos : ∀ i : Fin 8, ∀ q : Fin 256, dg q.val i.val = 1 → 1 ≤ pc q.val := by decide +kernel
/-- The product of the numbers up to n. -/
def fac : Nat → Nat
  | 0 => 1
  | n + 1 => (n + 1) * fac n
theorem fac_succ (n : Nat) : fac (n + 1) = (n + 1) * fac n := rfl
theorem fac8 : ∀ n : Fin 9, 1 ≤ fac n.val ∧ fac n.val ≤ 40320 := by decide +kernel
theorem fac_le {n : Nat} (h : n ≤ 8) : 1 ≤ fac n ∧ fac n ≤ 40320 := fac8 ⟨n, by omega⟩
theorem fac_grow {k n : Nat} (h : n ≤ 8) (hk : k < n) : (fac k : Int) * ((k : Int) + 1) = (fac (k + 1) : Nat) ∧ (fac (k + 1) : Nat) ≤ 40320 := by
  refine ⟨?_, (fac_le (n := k + 1) (by omega)).2⟩
  rw [fac_succ, Int.natCast_mul, Int.mul_comm]
  rfl
set_option maxRecDepth 100000 in
set_option maxHeartbeats 1000000 in
theorem size_any (k : Nat) (w : World) (hk : k < 256) : Calls Try.prog 141 #[.int .i64 (k : Int)] w (fun e w' => e = .returned (.int .i64 (pc k : Nat)) ∧ w = w') := by
  obtain ⟨P, hP⟩ : ∃ P : Nat, pc k = P := ⟨_, rfl⟩
  have hP8 : P ≤ 8 := by rw [← hP]; exact pc_le ⟨k, hk⟩
  rw [hP]
  have HP := Lib.hid hP
  clear hP
  go_enter Try.func141, Try.ntmps141
  go_wp2_with fail
  go_loop [0, 3] (fun i s => ∃ q c : Nat, q ≤ k ∧ i = .int .i64 q ∧ s = .int .i64 c ∧ Hid (c + pc q = P)) (fun i _ => (intOf i).toNat)
  case atStart => exact ⟨k, 0, Nat.le_refl _, rfl, rfl, Lib.hid (by rw [Nat.zero_add]; exact HP.out)⟩
  case round =>
    obtain ⟨q, c, hq, rfl, rfl, hs⟩ := hrel
    have hst := pc_step ⟨q, by omega⟩
    have HS := Lib.hid (show (c + q % 2) + pc (q / 2) = P by have := hs.out; simp only at hst; omega)
    have hc8 : c ≤ 8 := by have := hs.out; omega
    have hbit := and_one q (by omega)
    have hm2 : q % 2 ≤ 1 := by omega
    clear hst
    by_cases h0 : 0 < q
    · have hd : q / 2 < q := by omega
      have hdv : ((q : Int) / 2) = ((q / 2 : Nat) : Int) := by simp
      clear hs
      generalize q % 2 = x at *
      generalize q / 2 = y at *
      go_wp2_with fail
      go_round
      case rel => exact ⟨y, c + x, by omega, by first | rfl | (rw [hdv]), by go_num, HS⟩
      case measure => simp [intOf]; omega
    · obtain rfl : q = 0 := by omega
      have HE := Lib.hid (show c = P by have := hs.out; have e : pc 0 = 0 := rfl; omega)
      clear hs hbit HS
      go_wp2_with fail
      go_ret
      exact ⟨by rw [← HE.out]; rfl, rfl⟩
set_option maxRecDepth 100000 in
set_option maxHeartbeats 1000000 in
theorem spec_fac (n : Nat) (w : World) (hn : n ≤ 8) : Calls Try.prog 142 #[.int .i64 (n : Int)] w (fun e w' => e = .returned (.int .i64 (fac n : Nat)) ∧ w = w') := by
  go_enter Try.func142, Try.ntmps142
  go_wp2_with fail
  go_loop [3, 4] (fun r i => ∃ k : Nat, 1 ≤ k ∧ k ≤ 8 ∧ (k ≤ n ∨ k = 1) ∧ i = .int .i64 ((k + 1 : Nat) : Int) ∧ r = .int .i64 (fac k : Nat)) (fun _ i => n + 1 - (intOf i).toNat)
  case atStart => exact ⟨1, by omega, by omega, by omega, rfl, rfl⟩
  case round =>
    obtain ⟨k, hk1, hk8, hkn, rfl, rfl⟩ := hrel
    by_cases hlt : k + 1 ≤ n
    · have hf := fac_le (n := k) (by omega)
      obtain ⟨hg, hg2⟩ := fac_grow hn (show k < n by omega)
      obtain ⟨G, hG⟩ : ∃ G : Nat, fac (k + 1) = G := ⟨_, rfl⟩
      rw [hG] at hg hg2
      have HG := Lib.hid hG
      clear hG
      generalize fac k = f at *
      have e1 : IntKind.i64.wrap ((f : Int) * ((k : Int) + 1)) = (G : Int) := by rw [hg]; exact IntWalk.i64_in _ (by omega)
      clear hg
      go_wp2_with fail
      go_round
      case rel => exact ⟨k + 1, by omega, by omega, by omega, by go_num, by rw [HG.out]⟩
      case measure => simp [intOf]; omega
    · have HE := Lib.hid (show fac k = fac n by
        rcases hkn with h | h
        · obtain rfl : k = n := by omega
          rfl
        · subst h
          have : n = 0 ∨ n = 1 := by omega
          rcases this with rfl | rfl <;> rfl)
      go_wp2_with fail
      go_ret
      exact ⟨by rw [← HE.out]; rfl, rfl⟩
end Go.Proofs.Ytplhcboecjegjaa.pop
