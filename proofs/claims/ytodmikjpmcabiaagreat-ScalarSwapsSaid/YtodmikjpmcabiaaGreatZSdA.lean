/-
  The words' operation is the spans'; what turned bytes hold.
-/
import Derived.Test.YtodmikjpmcabiaaGreatZScV
namespace Go.Proofs.YtodmikjpmcabiaaGreat
set_option linter.unusedSimpArgs false
set_option linter.unusedVariables false
set_option maxRecDepth 100000
open Go.RowKit

/-- Bytes turned about. -/
def swB (k : Nat) (x : B64) : B64 := BitVec.ofNat 64 (Wd.rev k (ub x)).toNat
def revN : Nat → Nat → Nat
  | 0, _ => 0
  | k + 1, a => revN k a * 256 + a / 256 ^ k % 256
theorem rev_nat (a : Nat) : ∀ k, Wd.rev k (a : Int) = ((revN k a : Nat) : Int)
  | 0 => rfl
  | k + 1 => by
    show Wd.rev k (a : Int) * 256 + (a : Int) / 256 ^ k % 256 = _
    rw [rev_nat a k, revN, Int.natCast_add, Int.natCast_mul, Int.natCast_emod, Int.natCast_ediv]
    simp
theorem revN_lt (a : Nat) : ∀ k, revN k a < 256 ^ k
  | 0 => by simp [revN]
  | k + 1 => by
    have := revN_lt a k
    rw [revN, Nat.pow_succ]
    have : a / 256 ^ k % 256 < 256 := Nat.mod_lt _ (by decide)
    omega
theorem sw_toNat (k : Nat) (hk : k ≤ 8) (x : B64) : (swB k x).toNat = revN k x.toNat := by
  unfold swB ub
  rw [rev_nat, Int.toNat_natCast, BitVec.toNat_ofNat]
  apply Nat.mod_eq_of_lt
  have h1 := revN_lt x.toNat k
  have h2 : 256 ^ k ≤ 256 ^ 8 := Nat.pow_le_pow_right (by decide) hk
  have h3 : (256 : Nat) ^ 8 = 2 ^ 64 := by decide
  omega
theorem sw_ub (k : Nat) (hk : k ≤ 8) (x : B64) : ub (swB k x) = Wd.rev k (ub x) := by
  unfold ub
  rw [sw_toNat k hk, rev_nat]
def swpX (k : Nat) (s : Sc) : Sc := ((swB k s.1.1, swB k s.1.2), (belowI (8 * k : Nat)).2)
end Go.Proofs.YtodmikjpmcabiaaGreat
