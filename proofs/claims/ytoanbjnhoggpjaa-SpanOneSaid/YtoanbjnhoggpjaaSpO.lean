/-
  Contracts of the document's Top, Power, Drawn, One, and of the laws' pick.
-/
import Derived.Test.YtoanbjnhoggpjaaSpE
namespace Go.Proofs.Ytoanbjnhoggpjaa
set_option linter.unusedSimpArgs false
set_option linter.unusedVariables false
set_option maxRecDepth 100000
open Go.ChangeShapes Go.WideShapes Go.ChangeAt Go.RowKit

@[go_sem] theorem ub_2mul (x : B64) : IntKind.u64.wrap (2 * ub x) = ub (2#64 * x) := ub_wmul 2#64 x
@[go_sem] theorem ub_succ (x : B64) : IntKind.u64.wrap (ub x + 1) = ub (x + 1#64) := ub_wadd x 1#64
@[go_sem] theorem ub_tdiv2 (x : B64) : IntKind.u64.wrap ((ub x).tdiv 2) = ub (x / 2#64) := ub_tdiv x 2#64
@[go_sem] theorem ub_tmod64 (x : B64) : IntKind.u64.wrap ((ub x).tmod 64) = ub (x % 64#64) := ub_tmod x 64#64
@[go_sem] theorem ub_tmod32 (x : B64) : IntKind.u64.wrap ((ub x).tmod 32) = ub (x % 32#64) := ub_tmod x 32#64
@[go_sem] theorem ub_negO (x : B64) : IntKind.u64.wrap (-(ub x)) = ub (0#64 - x) := by
  have h := ub_wsub 0#64 x
  rw [show ub 0#64 = 0 from rfl, Int.zero_sub] at h
  exact h
theorem tmod_is (x y : B64) : (ub x).tmod (ub y) = ub (x % y) := by
  rw [Int.tmod_eq_emod_of_nonneg (ub_ge x)]; unfold ub; rw [BitVec.toNat_umod]; exact (Int.natCast_emod _ _).symm
@[go_sem] theorem ub_sub0 (x : B64) : IntKind.u64.wrap (0 - ub x) = ub (0#64 - x) := ub_wsub 0#64 x
theorem low_step (i : Nat) (h : i < 64) : 2#64 * (1#64 <<< i - 1#64) + 1#64 = 1#64 <<< (i + 1) - 1#64 := by
  apply BitVec.eq_of_toNat_eq
  rw [add64, BitVec.toNat_mul, toNat_low i (by omega), toNat_low (i + 1) (by omega), Nat.pow_succ, show (2#64 : B64).toNat = 2 from rfl, show (1#64 : B64).toNat = 1 from rfl]
  have h1 : 2 ^ i ≤ 2 ^ 63 := Nat.pow_le_pow_right (by decide) (by omega)
  have h2 := Nat.two_pow_pos i
  omega
theorem pow_step (i : Nat) : 2#64 * (1#64 <<< i) = 1#64 <<< (i + 1) := by
  apply BitVec.eq_of_toNat_eq
  rw [BitVec.toNat_mul, BitVec.toNat_shiftLeft, BitVec.toNat_shiftLeft, Nat.shiftLeft_eq, Nat.shiftLeft_eq, show (2#64 : B64).toNat = 2 from rfl, show (1#64 : B64).toNat = 1 from rfl, Nat.pow_succ]
  omega
theorem qTop_any (k : Nat) (w : World) (hk : k ≤ 64) : Calls Try.prog 99 #[.int .i64 (k : Int)] w fun e w' => e = .returned (.int .u64 (ub (1#64 <<< k - 1#64))) ∧ w' = w := by
  obtain ⟨R, HR⟩ : ∃ R : B64, R = 1#64 <<< k - 1#64 := ⟨_, rfl⟩
  rw [← HR]
  replace HR := hid HR
  go_enter Try.func99, Try.ntmps99
  go_wp2_with fail
  go_loopw [3, 4] (fun n i wr => ∃ j : Nat, j ≤ k ∧ i = .int .i64 j ∧ n = .int .u64 (ub (1#64 <<< j - 1#64)) ∧ Hid (wr = w)) (fun n i _ => k - (intOf i).toNat)
  case atStart => exact ⟨0, by omega, rfl, rfl, hid rfl⟩
  case round =>
    obtain ⟨j, hj, rfl, rfl, HI⟩ := hrel
    by_cases hlt : j < k
    · have hlt' : (j : Int) < k := by omega
      have HS := hid (low_step j (by omega))
      generalize 1#64 <<< j - 1#64 = n at *
      go_wp2
      go_roundw
      case rel => exact ⟨j + 1, by omega, by go_num, by rw [HS.out], HI⟩
      case measure => simp [intOf]; omega
    · have hlt' : ¬ (j : Int) < k := by omega
      obtain rfl : j = k := by omega
      rw [← HR.out]
      obtain rfl := HI.out
      go_wp2
      go_ret
      exact ⟨rfl, rfl⟩
theorem qPower_any (k : Nat) (w : World) (hk : k ≤ 64) : Calls Try.prog 100 #[.int .i64 (k : Int)] w fun e w' => e = .returned (.int .u64 (ub (1#64 <<< k))) ∧ w' = w := by
  obtain ⟨R, HR⟩ : ∃ R : B64, R = 1#64 <<< k := ⟨_, rfl⟩
  rw [← HR]
  replace HR := hid HR
  go_enter Try.func100, Try.ntmps100
  go_wp2_with fail
  go_loopw [3, 4] (fun n i wr => ∃ j : Nat, j ≤ k ∧ i = .int .i64 j ∧ n = .int .u64 (ub (1#64 <<< j)) ∧ Hid (wr = w)) (fun n i _ => k - (intOf i).toNat)
  case atStart => exact ⟨0, by omega, rfl, rfl, hid rfl⟩
  case round =>
    obtain ⟨j, hj, rfl, rfl, HI⟩ := hrel
    by_cases hlt : j < k
    · have hlt' : (j : Int) < k := by omega
      have HS := hid (pow_step j)
      generalize 1#64 <<< j = n at *
      go_wp2
      go_roundw
      case rel => exact ⟨j + 1, by omega, by go_num, by rw [HS.out], HI⟩
      case measure => simp [intOf]; omega
    · have hlt' : ¬ (j : Int) < k := by omega
      obtain rfl : j = k := by omega
      rw [← HR.out]
      obtain rfl := HI.out
      go_wp2
      go_ret
      exact ⟨rfl, rfl⟩
def drB (p x : B64) : Nat → B64
  | 0 => x
  | k + 1 => drB p x k / 2#64 + (drB p x k &&& p)
theorem qDrawn_any (c : Bool) (x : B64) (k : Nat) (w : World) (hk : k ≤ 64) : Calls Try.prog 101 #[.int .u64 (ub x), .int .i64 (k : Int), .int .i64 (szI c)] w fun e w' => e = .returned (.int .u64 (ub (drB (1#64 <<< (sizeW c - 1)) x k))) ∧ w' = w := by
  have HP := fun W => qPower_any (sizeW c - 1) W (by have := sizeW_le c; omega)
  obtain ⟨R, HR⟩ : ∃ R : B64, R = drB (1#64 <<< (sizeW c - 1)) x k := ⟨_, rfl⟩
  rw [← HR]
  generalize 1#64 <<< (sizeW c - 1) = P at *
  replace HR := hid HR
  have e1 : IntKind.i64.wrap (szI c - 1) = ((sizeW c - 1 : Nat) : Int) := by cases c <;> kernel_rfl
  generalize ((sizeW c - 1 : Nat) : Int) = Q at *
  generalize szI c = SZ at *
  replace HP := hid HP
  go_enter Try.func101, Try.ntmps101
  go_wp2_with fail
  go_loopw [0, 7] (fun n i wr => ∃ j : Nat, j ≤ k ∧ i = .int .i64 j ∧ n = .int .u64 (ub (drB P x j)) ∧ Hid (wr = w)) (fun n i _ => k - (intOf i).toNat)
  case atStart => exact ⟨0, by omega, rfl, rfl, hid rfl⟩
  case round =>
    obtain ⟨j, hj, rfl, rfl, HI⟩ := hrel
    by_cases hlt : j < k
    · have hlt' : (j : Int) < k := by omega
      have HS := hid (show drB P x (j + 1) = drB P x j / 2#64 + (drB P x j &&& P) from rfl)
      generalize drB P x j = n at *
      go_wp2_with fail
      refine (HP.out _).mono ?_
      rintro e w1 ⟨rfl, rfl⟩
      go_wp2
      go_roundw
      case rel => exact ⟨j + 1, by omega, by go_num, by rw [HS.out], HI⟩
      case measure => simp [intOf]; omega
    · have hlt' : ¬ (j : Int) < k := by omega
      obtain rfl : j = k := by omega
      rw [← HR.out]
      obtain rfl := HI.out
      go_wp2
      go_ret
      exact ⟨rfl, rfl⟩
theorem max64 : (18446744073709551615 : Int) = ub 18446744073709551615#64 := by kernel_rfl
@[go_sem] theorem ub_eqmax (x : B64) : (ub x == 18446744073709551615) = (x == 18446744073709551615#64) := by rw [max64, ub_eqi]
def pickB (s : Tn) (n : B64) : B64 := if s.2 - s.1 = 18446744073709551615#64 then n else s.1 + n % (s.2 - s.1 + 1#64)
theorem pick_lies (s : Tn) (n : B64) (h : s.1.toNat ≤ s.2.toNat) : Lies s (pickB s n).toNat := by
  have hw := width s h
  unfold pickB Lies
  by_cases e : s.2 - s.1 = 18446744073709551615#64
  · rw [if_pos e]
    rw [e] at hw
    have : (18446744073709551615#64 : B64).toNat = 18446744073709551615 := rfl
    have := n.isLt
    have := s.2.isLt
    omega
  · rw [if_neg e]
    have e' : (s.2 - s.1).toNat ≠ 18446744073709551615 := fun h => e (BitVec.eq_of_toNat_eq h)
    have e1 : (s.2 - s.1 + 1#64).toNat = s.2.toNat - s.1.toNat + 1 := by
      rw [add64, hw, show (1#64 : B64).toNat = 1 from rfl]; have := s.2.isLt; omega
    rw [add64, BitVec.toNat_umod, e1]
    have := Nat.mod_lt n.toNat (show 0 < s.2.toNat - s.1.toNat + 1 by omega)
    have := s.2.isLt
    omega
end Go.Proofs.Ytoanbjnhoggpjaa
